/-
  PrtSteps: its walk, for every tree.
-/
import Derived.Test.YtdlleecfmebenaaLawS
namespace Go.Proofs.Ytdlleecfmebenaa
set_option linter.unusedVariables false
set_option maxRecDepth 4000
set_option linter.unusedSimpArgs false
open Go.RowKit

attribute [local go_sem ↓] ldP stP ldT stT
set_option maxHeartbeats 8000000 in
theorem PrtSteps_walk (h : Hd) (a0 : Option Addr) (n0 c0 : Nat) (l : List Pt) (i : Int) (w : World) (hs : SlAt w a0 n0 c0 l) (hi : -9223372036854775808 ≤ i ∧ i ≤ 9223372036854775807) :
    Calls Try.prog 3 #[.agg (trc h (.slice a0 n0 c0)), .int .i64 i] w fun r w' => r = .returned (.bool true) ∧ Below w.heap.size w w' := by
  obtain ⟨W, hW, r0, bW, zW⟩ := one_t w h (.slice a0 n0 c0)
  have l0 := r0.tld
  have H : Hid (SlAt W a0 n0 c0 l ∧ RvAt W w.heap.size 31 (trc h (.slice a0 n0 c0)) ∧ Below w.heap.size w W) := ⟨hs.below bW, r0, bW⟩
  clear hs r0 bW zW hi
  go_enter Try.func3, Try.ntmps3
  go_wp2_with fail
  refine (few_any h a0 n0 c0 l W H.out.1).mono ?_
  rintro _ W1 ⟨v, rfl, o1, b1⟩
  obtain ⟨ls, a, n, c, V, hlen, hn, rfl, sV, t, gV⟩ := few_in H.out.2.1 H.out.2.2 (Nat.le_refl _) b1 o1
  have G : Hid (TQ w V w.heap.size h a n c ls) := t
  have HN : Hid (ls.length = n) := hlen
  have hn1 : n ≤ 1000 := by omega
  have hn10 : n ≤ 10 := hn
  have lV := t.ld
  clear o1 b1 gV t l0 H hlen hW hn
  go_wp2_with fail
  refine (pstep_any h a n c ls i V G.out.sl hn1).mono ?_
  rintro _ V1 ⟨a1, c1, rfl, s1, b1⟩
  obtain ⟨V2, s2, t2, b2⟩ := TQ.new (w := w) (h := h) s1 (below_over G.out.bel b1)
  have hlt := (G.out.var.below b1).lt
  obtain ⟨i1, hi1⟩ : ∃ z, V1.heap.size = z := ⟨_, rfl⟩
  rw [hi1] at s2 t2 hlt
  have G2 : Hid (TQ w V2 w.heap.size h a n c ls ∧ TQ w V2 i1 h a1 n c1 (stepL ls i) ∧ w.heap.size < i1) := ⟨(G.out.below b1).below b2, t2, hlt⟩
  have l2 := G2.out.1.ld
  clear s1 b1 t2 b2 G lV sV hlt
  obtain ⟨B, hB⟩ : ∃ z, stepB ls i = z := ⟨_, rfl⟩
  have EB : Hid (stepB ls i = B) := hB
  rw [hB]
  clear hB
  go_wp2_with fail
  refine (rstep_any h a n c ls i V2 G2.out.1.sl hn1).mono ?_
  rintro _ V3 ⟨a2, c2, rfl, s3, b3⟩
  rw [EB.out]
  obtain ⟨V4, s4, t4, b4⟩ := TQ.new (w := w) (h := h) s3 (below_over G2.out.1.bel b3)
  obtain ⟨i2, hi2⟩ : ∃ z, V3.heap.size = z := ⟨_, rfl⟩
  rw [hi2] at s4 t4
  have G4 : Hid (TQ w V4 i1 h a1 n c1 (stepL ls i) ∧ TQ w V4 i2 h a2 n c2 (stepL ls i)) := ⟨(G2.out.2.1.below b3).below b4, t4⟩
  have f1 := G4.out.1.ld
  have f2 := G4.out.2.ld
  clear s3 b3 t4 b4 G2 l2 s2 hi1 EB
  go_wp2_with fail
  refine (rsame_any h h a1 a2 n n c1 c2 (stepL ls i) (stepL ls i) _ G4.out.1.sl G4.out.2.sl hn1 hn1).mono ?_
  rintro _ V5 ⟨rfl, b5⟩
  rw [sameT_self]
  have F : Hid (Below w.heap.size w V5) := below_over G4.out.1.bel b5
  clear b5 f1 f2 s4 hi2 G4
  cases B
  · skip
    go_wp2_with fail
    refine (awake_any _).mono ?_
    rintro _ VA ⟨rfl, bA⟩
    have FA : Hid (Below w.heap.size w VA) := below_over F.out bA
    clear bA
    go_wp2
    go_ret
    exact ⟨rfl, FA.out⟩
  · skip
    go_wp2_with fail
    refine (awake_any _).mono ?_
    rintro _ VA ⟨rfl, bA⟩
    have FA : Hid (Below w.heap.size w VA) := below_over F.out bA
    clear bA
    go_wp2
    go_ret
    exact ⟨rfl, FA.out⟩
end Go.Proofs.Ytdlleecfmebenaa
