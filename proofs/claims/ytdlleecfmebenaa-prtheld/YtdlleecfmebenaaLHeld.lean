/-
  PrtHeld: its walk, for every tree.
-/
import Derived.Test.YtdlleecfmebenaaLPure
namespace Go.Proofs.Ytdlleecfmebenaa
set_option linter.unusedVariables false
set_option maxRecDepth 4000
set_option linter.unusedSimpArgs false
open Go.RowKit

/-- A port that is held. -/
def hldP (b : Bool) (p : Pt) : Pt := (p.setB 22 kb22 (p.bt 22 && b)).setB 28 kb28 b
theorem hld_22 (b : Bool) (p : Pt) : (hldP b p).bt 22 = (p.bt 22 && b) := bt_is (by simp only [hldP, Row.setB_get]; rfl)
theorem hld_28 (b : Bool) (p : Pt) : (hldP b p).bt 28 = b := bt_is (by simp only [hldP, Row.setB_get]; rfl)
theorem hld_73 (b : Bool) (p : Pt) : (hldP b p).nm 73 = p.nm 73 := nm_of (by simp only [hldP, Row.setB_get]; rfl)
theorem held_no {l : List Pt} {k : Nat} {b : Bool} {p : Pt} (hk : k < l.length) (h : 1 ≤ p.nm 73 ∧ p.nm 73 ≤ 6) : stepO (l.set k (hldP b p)) k = none := by
  rw [step_ref]
  unfold refO
  rw [gtP_put hk, hld_73, hld_22, hld_28, if_neg (by simp; omega), if_pos (by cases b <;> simp)]
theorem held_beg {l : List Pt} {k : Nat} {b : Bool} {p : Pt} (hk : k < l.length) (h : ¬ (1 ≤ p.nm 73 ∧ p.nm 73 ≤ 6)) : stepO (l.set k (hldP b p)) k = some (l.set k (begP (hldP b p))) := by
  rw [step_ref]
  unfold refO
  rw [gtP_put hk, hld_73, if_pos (by simp; omega), List.set_set]
/-- A port's variable beside a tree's. -/
structure PV (w W : World) (z : Nat) (p : Pt) : Prop where
  var : RvAt W z 45 p.cs
  hz : w.heap.size ≤ z
attribute [local go_sem ↓] ldP stP stB stU stW ldT stT
attribute [local go_sem ↓] alP
attribute [local go_sem] alP_run
set_option maxHeartbeats 8000000 in
theorem PrtHeld_walk (h : Hd) (a0 : Option Addr) (n0 c0 : Nat) (l : List Pt) (i : Int) (ub : Bool) (w : World) (hs : SlAt w a0 n0 c0 l) (hi : -9223372036854775808 ≤ i ∧ i ≤ 9223372036854775807) :
    Calls Try.prog 7 #[.agg (trc h (.slice a0 n0 c0)), .int .i64 i, .bool ub] w fun r w' => r = .returned (.bool true) ∧ Below w.heap.size w w' := by
  obtain ⟨W, hW, r0, bW, zW⟩ := one_t w h (.slice a0 n0 c0)
  have l0 := r0.tld
  have H : Hid (SlAt W a0 n0 c0 l ∧ RvAt W w.heap.size 31 (trc h (.slice a0 n0 c0)) ∧ Below w.heap.size w W) := ⟨hs.below bW, r0, bW⟩
  clear hs r0 bW zW hi
  go_enter Try.func7, Try.ntmps7
  go_wp2_with fail
  refine (few_any h a0 n0 c0 l W H.out.1).mono ?_
  rintro _ W1 ⟨v, rfl, o1, b1⟩
  obtain ⟨ls, a, n, c, V, hlen, hn, rfl, sV, t, gV⟩ := few_in H.out.2.1 H.out.2.2 (Nat.le_refl _) b1 o1
  have G : Hid (TQ w V w.heap.size h a n c ls) := t
  have HN : Hid (ls.length = n) := hlen
  have hn1 : n ≤ 1000 := by omega
  have hn10 : n ≤ 10 := hn
  have lV := t.ld
  clear o1 b1 gV t l0 H hlen hW hn
  go_wp2_with fail
  refine (has_any h a n c i V hn1).mono ?_
  rintro _ V1 ⟨rfl, b1⟩
  have G1 : Hid (TQ w V1 w.heap.size h a n c ls) := G.out.below b1
  have F1 : Hid (Below w.heap.size w V1) := G1.out.bel
  clear b1 G lV sV
  by_cases hi : 0 ≤ i ∧ i < (n : Int)
  rotate_left
  · have eb : (decide (0 ≤ i) && decide (i < (n : Int))) = false := by simp; omega
    rw [eb]
    clear eb hi G1
    go_wp2_with fail
    refine (awake_any _).mono ?_
    rintro _ VA ⟨rfl, bA⟩
    have FA : Hid (Below w.heap.size w VA) := below_over F1.out bA
    clear bA
    go_wp2
    go_ret
    exact ⟨rfl, FA.out⟩
  have eb : (decide (0 ≤ i) && decide (i < (n : Int))) = true := by simp; omega
  rw [eb]
  clear eb
  obtain ⟨k, hk⟩ : ∃ k : Nat, i = (k : Int) := ⟨i.toNat, by omega⟩
  subst hk
  have hin0 : (0 : Int) ≤ (k : Int) := by omega
  have hin1 : (k : Int) < (n : Int) := by omega
  have hkn : k < n := by omega
  have hkl : k < ls.length := by rw [HN.out]; omega
  obtain ⟨g0, o0, rfl⟩ := G1.out.sl.some' (by omega)
  have c16 := G1.out.var.t16
  have lp := G1.out.sl.ld (gtP_at hkl)
  obtain ⟨p, hp⟩ : ∃ p, gtP ls k = p := ⟨_, rfl⟩
  rw [hp] at lp
  obtain ⟨W0, s0, r0, b0, z0⟩ := var_p V1 p
  obtain ⟨Z, hZ⟩ : ∃ Z, V1.heap.size = Z := ⟨_, rfl⟩
  have hzw : w.heap.size < Z := by rw [← hZ]; exact Nat.lt_of_le_of_lt (Nat.le_refl _) G1.out.var.lt
  rw [hZ] at s0 r0
  have glt : g0 < Z := by rw [← hZ]; exact G1.out.sl.low (by omega)
  have G2 : Hid (TQ w W0 w.heap.size h (some ⟨g0, o0, none⟩) n c ls ∧ RvAt W0 Z 45 p.cs ∧ w.heap.size < Z ∧ g0 < Z) := ⟨G1.out.below b0, r0, hzw, glt⟩
  have R := r0.rdE
  clear b0 z0 r0 G1 hi hzw glt
  go_upto_region 5 with fail
  clear c16 lp s0 hZ
  refine wp_plain_tail (C := fun w' => w' = W0) 6 (by simp) rfl ?_
  simp only [List.take_succ_cons, List.take_zero]
  refine q_put (v := .pointer (some ⟨Z, 0 + 22, none⟩)) (yq rfl (Rn.qt (qfield rfl rfl fp22))) ?_
  try simp only [Act.put, List.setIfInBounds_toArray, List.set_cons_zero, List.set_cons_succ]
  refine q_put (v := .bool (p.bt 22)) (yq rfl (Rn.qt (qload rfl rfl (R.bit rfl)))) ?_
  try simp only [Act.put, List.setIfInBounds_toArray, List.set_cons_zero, List.set_cons_succ]
  refine q_put (v := .bool (p.bt 22)) (yq rfl (Rn.qt (qmove rfl rfl))) ?_
  try simp only [Act.put, List.setIfInBounds_toArray, List.set_cons_zero, List.set_cons_succ]
  refine q_put (v := gd (p.bt 22) true (.bool ub)) (yq1 rfl rfl (fun e => Rn.qt (qmove rfl rfl))) ?_
  try simp only [Act.put, List.setIfInBounds_toArray, List.set_cons_zero, List.set_cons_succ]
  refine q_put (v := .bool ((p.bt 22) && ub)) (yq rfl (Rn.qt (qpick rfl rfl (pkA rfl rfl)))) ?_
  try simp only [Act.put, List.setIfInBounds_toArray, List.set_cons_zero, List.set_cons_succ]
  refine q_put (v := .bool ub) (yq rfl (Rn.qt (qmove rfl rfl))) ?_
  try simp only [Act.put, List.setIfInBounds_toArray, List.set_cons_zero, List.set_cons_succ]
  refine wpQuiet_nil ?_
  rintro y_ hy_
  rw [hy_]
  clear hy_ y_ R
  simp only [List.drop_succ_cons, List.drop_zero]
  obtain ⟨W1, s1, r1, g1⟩ := G2.out.2.1.setB kb22 (p.bt 22 && ub)
  obtain ⟨W2, s2, r2, g2⟩ := r1.setB kb28 ub
  have r2 : RvAt W2 Z 45 (hldP ub p).cs := r2
  have tW := (G2.out.1.var.keptBut g1 (by have := G2.out.2.2.1; simp; omega)).keptBut g2 (by have := G2.out.2.2.1; simp; omega)
  have sW := (G2.out.1.sl.keptBut g1 (fun x hx e => by cases hx; have := G2.out.2.2.2; simp only [Option.some.injEq] at e; omega)).keptBut g2 (fun x hx e => by cases hx; have := G2.out.2.2.2; simp only [Option.some.injEq] at e; omega)
  have bW : Below w.heap.size w W2 := gro (gro G2.out.1.bel g1 (by have := G2.out.2.2.1; omega) G2.out.1.bel.size) g2 (by have := G2.out.2.2.1; omega) (Nat.le_trans G2.out.1.bel.size g1.size)
  have G3 : Hid (TQ w W2 w.heap.size h (some ⟨g0, o0, none⟩) n c ls ∧ RvAt W2 Z 45 (hldP ub p).cs ∧ w.heap.size < Z) := ⟨⟨tW, sW, bW, Nat.le_refl _⟩, r2, G2.out.2.2.1⟩
  have lt_ := tW.tld
  have lp_ := r2.pld
  clear r1 r2 g1 g2 tW sW bW G2
  go_wp2_with fail
  refine (with_any h (some ⟨g0, o0, none⟩) n c ls k (hldP ub p) W2 G3.out.1.sl hn1 hkn).mono ?_
  rintro _ W3 ⟨ga, ca, rfl, hga, sa, ba⟩
  obtain ⟨W4, s4, t4, g4⟩ := (G3.out.1.below ba).st sa
  have r4 := (G3.out.2.1.below ba).keptBut g4 (by have := G3.out.2.2; simp; omega)
  have G4 : Hid (TQ w W4 w.heap.size h (some ⟨ga, 0, none⟩) n ca (ls.set k (hldP ub p)) ∧ RvAt W4 Z 45 (hldP ub p).cs) := ⟨t4, r4⟩
  have l4 := t4.ld
  clear sa ba hga t4 g4 r4 G3 lt_ lp_ s1 s2
  go_wp2_with fail
  refine (pstep_any h (some ⟨ga, 0, none⟩) n ca (ls.set k (hldP ub p)) (k : Int) W4 G4.out.1.sl hn1).mono ?_
  rintro _ V5 ⟨a5, c5, rfl, s5, b5⟩
  obtain ⟨V6, s6, t6, b6⟩ := TQ.new (w := w) (h := h) s5 (below_over G4.out.1.bel b5)
  obtain ⟨i1, hi1⟩ : ∃ z, V5.heap.size = z := ⟨_, rfl⟩
  rw [hi1] at s6 t6
  have hkl2 : k < (ls.set k (hldP ub p)).length := by rw [List.length_set]; exact hkl
  obtain ⟨e1, e2⟩ := step_in hkl2
  rw [e2]
  rw [e1] at t6
  have G6 : Hid (TQ w V6 w.heap.size h (some ⟨ga, 0, none⟩) n ca (ls.set k (hldP ub p)) ∧ RvAt V6 Z 45 (hldP ub p).cs ∧ TQ w V6 i1 h a5 n c5 ((stepO (ls.set k (hldP ub p)) k).getD (ls.set k (hldP ub p)))) := ⟨(G4.out.1.below b5).below b6, (G4.out.2.below b5).below b6, t6⟩
  have l73 := G6.out.2.1.pnum (j := 73) (k := .i64) rfl
  rw [hld_73] at l73
  obtain ⟨N, hN⟩ : ∃ N, p.nm 73 = N := ⟨_, rfl⟩
  rw [hN] at l73
  clear s5 b5 t6 b6 e1 e2 l4 s4 G4
  by_cases hb : 1 ≤ N ∧ N ≤ 6
  · have hO := held_no (l := ls) (k := k) (b := ub) (p := p) hkl (by rw [hN]; exact hb)
    rw [hO] at G6 ⊢
    simp only [Option.isSome_none]
    have G7 : Hid (TQ w V6 w.heap.size h (some ⟨ga, 0, none⟩) n ca (ls.set k (hldP ub p)) ∧ TQ w V6 i1 h a5 n c5 (ls.set k (hldP ub p))) := ⟨G6.out.1, G6.out.2.2⟩
    have l7 := G7.out.1.ld
    have l8 := G7.out.2.ld
    have n1 := hb.1
    have n6 := hb.2
    clear G6 hO hb
    go_wp2_with fail
    refine (rsame_any h h a5 (some ⟨ga, 0, none⟩) n n c5 ca (ls.set k (hldP ub p)) (ls.set k (hldP ub p)) _ G7.out.2.sl G7.out.1.sl hn1 hn1).mono ?_
    rintro _ V7 ⟨rfl, b7⟩
    rw [sameT_self]
    have F7 : Hid (Below w.heap.size w V7) := below_over G7.out.1.bel b7
    clear b7 l7 l8 G7 l73 s6 hi1
    go_wp2_with fail
    refine (awake_any _).mono ?_
    rintro _ VA ⟨rfl, bA⟩
    have FA : Hid (Below w.heap.size w VA) := below_over F7.out bA
    clear bA
    go_wp2
    go_ret
    exact ⟨rfl, FA.out⟩
  · have hO := held_beg (l := ls) (k := k) (b := ub) (p := p) hkl (by rw [hN]; exact hb)
    rw [hO] at G6 ⊢
    simp only [Option.isSome_some]
    have G7 : Hid (TQ w V6 w.heap.size h (some ⟨ga, 0, none⟩) n ca (ls.set k (hldP ub p)) ∧ TQ w V6 i1 h a5 n c5 (ls.set k (begP (hldP ub p)))) := ⟨G6.out.1, G6.out.2.2⟩
    obtain ⟨g5, o5, rfl⟩ := G7.out.2.sl.some' (by omega)
    have at5 : (ls.set k (begP (hldP ub p)))[k]? = some (begP (hldP ub p)) := gtP_set hkl
    have x16 := G7.out.1.var.t16
    have y16 := G7.out.2.var.t16
    have y73 := G7.out.2.cell at5 ((begP (hldP ub p)).num (j := 73) (k := .i64) rfl) (by omega)
    rw [begP_73] at y73
    have y9 := G7.out.2.cell at5 ((begP (hldP ub p)).bit (j := 9) rfl) (by omega)
    rw [begP_9] at y9
    have y7 := G7.out.2.cell at5 ((begP (hldP ub p)).bit (j := 7) rfl) (by omega)
    rw [begP_7] at y7
    have F7 : Hid (Below w.heap.size w V6) := G7.out.1.bel
    clear G6 G7 hO at5
    by_cases h1 : 1 ≤ N
    · have h6 : ¬ N ≤ 6 := by omega
      clear hb
      go_wp2_with fail
      refine (awake_any _).mono ?_
      rintro _ VA ⟨rfl, bA⟩
      have FA : Hid (Below w.heap.size w VA) := below_over F7.out bA
      clear bA
      go_wp2
      go_ret
      exact ⟨rfl, FA.out⟩
    · clear hb
      go_wp2_with fail
      refine (awake_any _).mono ?_
      rintro _ VA ⟨rfl, bA⟩
      have FA : Hid (Below w.heap.size w VA) := below_over F7.out bA
      clear bA
      go_wp2
      go_ret
      exact ⟨rfl, FA.out⟩
end Go.Proofs.Ytdlleecfmebenaa
