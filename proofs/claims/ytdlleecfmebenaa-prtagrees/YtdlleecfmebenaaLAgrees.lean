/-
  PrtAgrees: its walk, for every tree.
-/
import Derived.Test.YtdlleecfmebenaaLPure
namespace Go.Proofs.Ytdlleecfmebenaa
set_option linter.unusedVariables false
set_option maxRecDepth 4000
set_option linter.unusedSimpArgs false
open Go.RowKit

attribute [local go_sem ↓] ldP stP ldT stT
set_option maxHeartbeats 8000000 in
theorem PrtAgrees_walk (h : Hd) (a0 : Option Addr) (n0 c0 : Nat) (l : List Pt) (i : Int) (w : World) (hs : SlAt w a0 n0 c0 l) (hi : -9223372036854775808 ≤ i ∧ i ≤ 9223372036854775807) :
    Calls Try.prog 6 #[.agg (trc h (.slice a0 n0 c0)), .int .i64 i] w fun r w' => r = .returned (.bool true) ∧ Below w.heap.size w w' := by
  obtain ⟨W, hW, r0, bW, zW⟩ := one_t w h (.slice a0 n0 c0)
  have l0 := r0.tld
  have H : Hid (SlAt W a0 n0 c0 l ∧ RvAt W w.heap.size 31 (trc h (.slice a0 n0 c0)) ∧ Below w.heap.size w W) := ⟨hs.below bW, r0, bW⟩
  clear hs r0 bW zW hi
  go_enter Try.func6, Try.ntmps6
  go_wp2_with fail
  refine (few_any h a0 n0 c0 l W H.out.1).mono ?_
  rintro _ W1 ⟨v, rfl, o1, b1⟩
  obtain ⟨ls, a, n, c, V, hlen, hn, rfl, sV, t, gV⟩ := few_in H.out.2.1 H.out.2.2 (Nat.le_refl _) b1 o1
  have G : Hid (TQ w V w.heap.size h a n c ls) := t
  have HN : Hid (ls.length = n) := hlen
  have hn1 : n ≤ 1000 := by omega
  have hn10 : n ≤ 10 := hn
  have lV := t.ld
  clear o1 b1 gV t l0 H hlen hW hn
  go_wp2_with fail
  refine (pstep_any h a n c ls i V G.out.sl hn1).mono ?_
  rintro _ V1 ⟨a1, c1, rfl, s1, b1⟩
  obtain ⟨V2, s2, t2, b2⟩ := TQ.new (w := w) (h := h) s1 (below_over G.out.bel b1)
  have hlt := (G.out.var.below b1).lt
  obtain ⟨i1, hi1⟩ : ∃ z, V1.heap.size = z := ⟨_, rfl⟩
  rw [hi1] at s2 t2 hlt
  have G2 : Hid (TQ w V2 w.heap.size h a n c ls ∧ TQ w V2 i1 h a1 n c1 (stepL ls i) ∧ w.heap.size < i1) := ⟨(G.out.below b1).below b2, t2, hlt⟩
  have l2 := G2.out.1.ld
  clear s1 b1 t2 b2 G lV sV hlt
  go_wp2_with fail
  refine (has_any h a n c i V2 hn1).mono ?_
  rintro _ V3 ⟨rfl, b3⟩
  have G3 : Hid (TQ w V3 w.heap.size h a n c ls ∧ TQ w V3 i1 h a1 n c1 (stepL ls i) ∧ w.heap.size < i1) := ⟨G2.out.1.below b3, G2.out.2.1.below b3, G2.out.2.2⟩
  have F3 : Hid (Below w.heap.size w V3) := G3.out.1.bel
  clear b3 G2 l2 s2 hi1
  by_cases hi : 0 ≤ i ∧ i < (n : Int)
  rotate_left
  · have eb : (decide (0 ≤ i) && decide (i < (n : Int))) = false := by simp; omega
    have es : stepB ls i = false := (step_out (by rw [HN.out]; exact hi)).2
    rw [eb, es]
    clear eb es hi G3
    go_wp2_with fail
    refine (awake_any _).mono ?_
    rintro _ VA ⟨rfl, bA⟩
    have FA : Hid (Below w.heap.size w VA) := below_over F3.out bA
    clear bA
    go_wp2
    go_ret
    exact ⟨rfl, FA.out⟩
  have eb : (decide (0 ≤ i) && decide (i < (n : Int))) = true := by simp; omega
  rw [eb]
  clear eb
  obtain ⟨k, hk⟩ : ∃ k : Nat, i = (k : Int) := ⟨i.toNat, by omega⟩
  subst hk
  have hin0 : (0 : Int) ≤ (k : Int) := by omega
  have hin1 : (k : Int) < (n : Int) := by omega
  have hkl : k < ls.length := by rw [HN.out]; omega
  obtain ⟨e1, e2⟩ := step_in hkl
  rw [e2]
  rw [e1] at G3
  clear e1 e2 hi
  cases hO : stepO ls k with
  | none =>
    simp only [Option.isSome_none]
    clear G3 hO
    go_wp2_with fail
    refine (awake_any _).mono ?_
    rintro _ VA ⟨rfl, bA⟩
    have FA : Hid (Below w.heap.size w VA) := below_over F3.out bA
    clear bA
    go_wp2
    go_ret
    exact ⟨rfl, FA.out⟩
  | some m =>
    have GD : Hid (fc3 (inS ls k) (gtP ls k) (gtP m k) = false ∧ m.length = n) := ⟨(good_step hkl hO).f3, by rw [stepO_len hO]; exact HN.out⟩
    rw [hO] at G3
    have G4 : Hid (TQ w V3 w.heap.size h a n c ls ∧ TQ w V3 i1 h a1 n c1 m) := ⟨G3.out.1, G3.out.2.1⟩
    simp only [Option.isSome_some]
    clear G3 hO
    obtain ⟨g0, o0, rfl⟩ := G4.out.1.sl.some' (by omega)
    obtain ⟨g1, o1, rfl⟩ := G4.out.2.sl.some' (by omega)
    have x16 := G4.out.1.var.t16
    have y16 := G4.out.2.var.t16
    have lt_ := G4.out.1.ld
    have x3 := G4.out.1.cell (gtP_at hkl) ((gtP ls k).bit (j := 3) rfl) (by omega)
    have y3 := G4.out.2.cell (gtP_at (l := m) (i := k) (by rw [GD.out.2]; omega)) ((gtP m k).bit (j := 3) rfl) (by omega)
    obtain ⟨M, hM⟩ : ∃ z, inS ls k = z := ⟨_, rfl⟩
    have EM : Hid (allK (okS (k : Int)) ls = M) := hM
    obtain ⟨P3, hP⟩ : ∃ z, (gtP ls k).bt 3 = z := ⟨_, rfl⟩
    obtain ⟨Q3, hQ⟩ : ∃ z, (gtP m k).bt 3 = z := ⟨_, rfl⟩
    have gd3 := GD.out.1
    unfold fc3 at gd3
    rw [hM, hP, hQ] at gd3
    rw [hP] at x3
    rw [hQ] at y3
    have G5 : Hid (SlAt V3 (some ⟨g0, o0, none⟩) n c ls) := G4.out.1.sl
    clear hM hP hQ GD G4
    cases Q3
    · clear gd3
      go_wp2_with fail
      refine (awake_any _).mono ?_
      rintro _ VA ⟨rfl, bA⟩
      have FA : Hid (Below w.heap.size w VA) := below_over F3.out bA
      clear bA
      go_wp2
      go_ret
      exact ⟨rfl, FA.out⟩
    · cases P3
      rotate_left
      · clear gd3
        go_wp2_with fail
        refine (awake_any _).mono ?_
        rintro _ VA ⟨rfl, bA⟩
        have FA : Hid (Below w.heap.size w VA) := below_over F3.out bA
        clear bA
        go_wp2
        go_ret
        exact ⟨rfl, FA.out⟩
      · have hM : M = true := by cases M <;> simp_all
        subst hM
        clear gd3
        go_wp2_with fail
        refine (rallS_any h (some ⟨g0, o0, none⟩) n c ls (k : Int) V3 G5.out hn1).mono ?_
        rw [EM.out]
        rintro _ V4 ⟨rfl, b4⟩
        have F4 : Hid (Below w.heap.size w V4) := below_over F3.out b4
        clear b4 x3 y3 x16 y16 lt_ G5
        go_wp2_with fail
        refine (awake_any _).mono ?_
        rintro _ VA ⟨rfl, bA⟩
        have FA : Hid (Below w.heap.size w VA) := below_over F4.out bA
        clear bA
        go_wp2
        go_ret
        exact ⟨rfl, FA.out⟩
end Go.Proofs.Ytdlleecfmebenaa
