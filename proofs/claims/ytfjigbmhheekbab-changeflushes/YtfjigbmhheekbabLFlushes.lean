/-
  ChangeFlushes: its walk, for every tree and place.
-/
import Derived.Test.YtfjigbmhheekbabAwake
import Derived.Test.YtfjigbmhheekbabLPure
import Derived.Test.YtfjigbmhheekbabSym
namespace Go.Proofs.Ytfjigbmhheekbab
set_option linter.unusedVariables false
set_option maxRecDepth 4000
set_option linter.unusedSimpArgs false
open Go.RowKit

theorem RvAt.rdE {W : World} {z : Nat} {p : Pt} (h : RvAt W z 41 p.cs) : Prd (fun w' => w' = W) z 0 p := ⟨fun j v hv w hw => by
  subst hw
  rw [Nat.zero_add]
  exact h.cell j v (by rw [Row.cget]; exact hv)⟩
theorem fp17 : FAt 41 17 17 := fun b q w => by go_simp
theorem fp19 : FAt 41 19 19 := fun b q w => by go_simp
theorem fp27 : FAt 41 27 27 := fun b q w => by go_simp
theorem fp47 : FAt 41 47 74 := fun b q w => by go_simp
attribute [local go_sem ↓] ldP stP ldT stT alP
attribute [local go_sem] alP_run
set_option maxHeartbeats 8000000 in
theorem ChangeFlushes_walk (h : Hd) (a0 : Option Addr) (n0 c0 : Nat) (l0 : List Pt) (i : Int) (w : World) (hs : SlAt w a0 n0 c0 l0) (hi : 0 ≤ i ∧ i ≤ 255) :
    Calls Try.prog 3 #[.agg (trc h (.slice a0 n0 c0)), .int .u8 i] w fun r w' => r = .returned (.bool true) ∧ Below w.heap.size w w' := by
  obtain ⟨W, hW, r0, bW, zW⟩ := one_t w h (.slice a0 n0 c0)
  have t0 := r0.tld
  have H : Hid (SlAt W a0 n0 c0 l0 ∧ RvAt W w.heap.size 31 (trc h (.slice a0 n0 c0)) ∧ Below w.heap.size w W) := ⟨hs.below bW, r0, bW⟩
  clear hs r0 bW zW
  go_enter Try.func3, Try.ntmps3
  go_wp2_with fail
  refine (few_any h a0 n0 c0 l0 W H.out.1).mono ?_
  rintro _ W1 ⟨n, rfl, hn, s1, b1⟩
  obtain ⟨l, hl⟩ : ∃ l, l0.take 12 = l := ⟨_, rfl⟩
  rw [hl] at s1
  obtain ⟨V, sV, t⟩ := TQ.few (w := w) H.out.2.1 H.out.2.2 (Nat.le_refl _) b1 s1
  have G4 : Hid (TQ w V w.heap.size h a0 n c0 l) := t
  have hn1 : n ≤ 1000 := by omega
  have c16 := t.var.t16
  by_cases h0 : n = 0
  · subst h0
    clear s1 b1 t t0 H hW hl
    go_wp2_with fail
    refine (awake_any V).mono ?_
    rintro _ V5 ⟨rfl, b5⟩
    have F : Hid (Below w.heap.size w V5) := below_over G4.out.bel b5
    clear b5 G4
    go_wp2
    go_ret
    exact ⟨rfl, F.out⟩
  · have hn0 : ((n : Int) == 0) = false := by simp; omega
    have hnp : (0 : Int) < (n : Int) := by omega
    obtain ⟨k, hk, hkn⟩ : ∃ k : Nat, i % (n : Int) = (k : Int) ∧ k < n := ⟨(i % (n : Int)).toNat, by have := Int.emod_nonneg i (b := (n : Int)) (by omega); omega, by have := Int.emod_nonneg i (b := (n : Int)) (by omega); have := Int.emod_lt_of_pos i hnp; omega⟩
    have hin0 : (0 : Int) ≤ (k : Int) := by omega
    have hin1 : (k : Int) < (n : Int) := by omega
    have hkl : k < l.length := by rw [t.sl.len]; exact hkn
    obtain ⟨g, o, ea⟩ := t.sl.some' (by omega)
    subst ea
    have lp := t.sl.ld (gtP_at hkl)
    obtain ⟨p, hp⟩ : ∃ p, gtP l k = p := ⟨_, rfl⟩
    rw [hp] at lp
    obtain ⟨W0, s0, r0, b0, z0⟩ := var_p V p
    obtain ⟨Z, hZ⟩ : ∃ Z, V.heap.size = Z := ⟨_, rfl⟩
    rw [hZ] at s0 r0
    have t1 := t.below b0
    have lt1 := t1.ld
    have T1 : Hid (TQ w W0 w.heap.size h (some ⟨g, o, none⟩) n c0 l ∧ RvAt W0 Z 41 p.cs) := ⟨t1, r0⟩
    have C : Hid _ := tcm_in h (some ⟨g, o, none⟩) n c0 l k W0 t1.sl hn1 hkn
    obtain ⟨ls, hls⟩ : ∃ z, (tcmO h l k).getD l = z := ⟨_, rfl⟩
    obtain ⟨B, hB⟩ : ∃ z, (tcmO h l k).isSome = z := ⟨_, rfl⟩
    obtain ⟨q, hq⟩ : ∃ z, gtP ls k = z := ⟨_, rfl⟩
    have EL : Hid ((tcmO h l k).getD l = ls ∧ (tcmO h l k).isSome = B) := ⟨hls, hB⟩
    have HQ : Hid (gtP ls k = q ∧ k < ls.length) := ⟨hq, by rw [← hls, tcm_len]; exact hkl⟩
    have HF : Hid (q.bt 6 = ((p.bt 6 || tolB B p q) || qutB B q)) := flushes h hkl p q B hp (by rw [hls]; exact hq) hB
    clear s1 b1 t t0 H hW hl G4 hls hB hq hp hkl h0 b0 z0 r0 t1
    have HK : Hid (i % (n : Int) = (k : Int)) := hk
    clear hk
    go_upto_region 5 with fail
    rw [HK.out]
    clear HK hi
    go_wp2_with fail
    refine Calls.mono C.out ?_
    rintro _ X1 ⟨a2, c2, rfl, s2, b2⟩
    rw [EL.out.1] at s2
    rw [EL.out.2]
    obtain ⟨g2, o2, rfl⟩ := s2.some' (by omega)
    obtain ⟨X2, e4, t2, b3⟩ := TQ.new (w := w) (h := h) s2 (below_over T1.out.1.bel b2)
    obtain ⟨i1, hi1⟩ : ∃ z, X1.heap.size = z := ⟨_, rfl⟩
    rw [hi1] at e4 t2
    have f1 := ((T1.out.1.below b2).below b3).var.t16
    have f2 := t2.var.t16
    have lq := t2.sl.ld (gtP_at HQ.out.2)
    rw [HQ.out.1] at lq
    obtain ⟨X3, e5, r5, b5, z5⟩ := var_p X2 q
    obtain ⟨Y, hY⟩ : ∃ Y, X2.heap.size = Y := ⟨_, rfl⟩
    rw [hY] at e5 r5
    have K : Hid (RvAt X3 Z 41 p.cs ∧ RvAt X3 Y 41 q.cs ∧ Below w.heap.size w X3) := ⟨((T1.out.2.below b2).below b3).below b5, r5, below_over t2.bel b5⟩
    have R := K.out.1.rdE
    have S := K.out.2.1.rdE
    obtain ⟨TO, hTO⟩ : ∃ z, tolB B p q = z := ⟨_, rfl⟩
    obtain ⟨QU, hQU⟩ : ∃ z, qutB B q = z := ⟨_, rfl⟩
    have ET : Hid (((((((B && (p.nm 74 == 3)) && p.bt 27) && !(q.bt 27)) && (q.nm 74 == 3)) && !(p.bt 17)) && !(p.bt 19)) = TO) := hTO
    have EU : Hid ((B && (q.nm 74 == 1)) = QU) := hQU
    rw [hTO, hQU] at HF
    clear s2 b2 t2 b3 r5 b5 z5 C EL T1 HQ hTO hQU
    go_upto_region 10 with fail
    refine wp_plain (C := fun w' => w' = X3) rfl ?_
    refine q_put (v := .bool B) (yq rfl (Rn.qt (qmove rfl rfl))) ?_
    try simp only [Act.put, List.setIfInBounds_toArray, List.set_cons_zero, List.set_cons_succ]
    refine q_put (v := .bool B) (yq rfl (Rn.qt (qmove rfl rfl))) ?_
    try simp only [Act.put, List.setIfInBounds_toArray, List.set_cons_zero, List.set_cons_succ]
    refine q_put (v := gd B true (.pointer (some ⟨Z, 0 + 74, none⟩))) (yq1 rfl rfl (fun e => Rn.qt (qfield rfl rfl fp47))) ?_
    try simp only [Act.put, List.setIfInBounds_toArray, List.set_cons_zero, List.set_cons_succ]
    refine q_put (v := gd B true (.int .i64 (p.nm 74))) (yq1 rfl rfl (fun e => Rn.qt (qload rfl (on e rfl) (R.state rfl)))) ?_
    try simp only [Act.put, List.setIfInBounds_toArray, List.set_cons_zero, List.set_cons_succ]
    refine q_put (v := gd B true (.bool ((p.nm 74) == 3))) (yq1 rfl rfl (fun e => Rn.qt (qbin rfl (on e rfl) rfl (eg_state _ _ _ _ _) (eq_state _ _)))) ?_
    try simp only [Act.put, List.setIfInBounds_toArray, List.set_cons_zero, List.set_cons_succ]
    refine q_put (v := .bool (B && ((p.nm 74) == 3))) (yq rfl (Rn.qt (qpick rfl rfl (pkA rfl rfl)))) ?_
    try simp only [Act.put, List.setIfInBounds_toArray, List.set_cons_zero, List.set_cons_succ]
    refine q_put (v := .bool (B && ((p.nm 74) == 3))) (yq rfl (Rn.qt (qmove rfl rfl))) ?_
    try simp only [Act.put, List.setIfInBounds_toArray, List.set_cons_zero, List.set_cons_succ]
    refine q_put (v := gd (B && ((p.nm 74) == 3)) true (.pointer (some ⟨Z, 0 + 27, none⟩))) (yq1 rfl rfl (fun e => Rn.qt (qfield rfl rfl fp27))) ?_
    try simp only [Act.put, List.setIfInBounds_toArray, List.set_cons_zero, List.set_cons_succ]
    refine q_put (v := gd (B && ((p.nm 74) == 3)) true (.bool (p.bt 27))) (yq1 rfl rfl (fun e => Rn.qt (qload rfl (on e rfl) (R.bit rfl)))) ?_
    try simp only [Act.put, List.setIfInBounds_toArray, List.set_cons_zero, List.set_cons_succ]
    refine q_put (v := .bool ((B && ((p.nm 74) == 3)) && (p.bt 27))) (yq rfl (Rn.qt (qpick rfl rfl (pkA rfl rfl)))) ?_
    try simp only [Act.put, List.setIfInBounds_toArray, List.set_cons_zero, List.set_cons_succ]
    refine q_put (v := .bool ((B && ((p.nm 74) == 3)) && (p.bt 27))) (yq rfl (Rn.qt (qmove rfl rfl))) ?_
    try simp only [Act.put, List.setIfInBounds_toArray, List.set_cons_zero, List.set_cons_succ]
    refine q_put (v := gd ((B && ((p.nm 74) == 3)) && (p.bt 27)) true (.pointer (some ⟨Y, 0 + 27, none⟩))) (yq1 rfl rfl (fun e => Rn.qt (qfield rfl rfl fp27))) ?_
    try simp only [Act.put, List.setIfInBounds_toArray, List.set_cons_zero, List.set_cons_succ]
    refine q_put (v := gd ((B && ((p.nm 74) == 3)) && (p.bt 27)) true (.bool (q.bt 27))) (yq1 rfl rfl (fun e => Rn.qt (qload rfl (on e rfl) (S.bit rfl)))) ?_
    try simp only [Act.put, List.setIfInBounds_toArray, List.set_cons_zero, List.set_cons_succ]
    refine q_put (v := gd ((B && ((p.nm 74) == 3)) && (p.bt 27)) true (.bool (!(q.bt 27)))) (yq1 rfl rfl (fun e => Rn.qt (qnot rfl (on e rfl)))) ?_
    try simp only [Act.put, List.setIfInBounds_toArray, List.set_cons_zero, List.set_cons_succ]
    refine q_put (v := .bool (((B && ((p.nm 74) == 3)) && (p.bt 27)) && (!(q.bt 27)))) (yq rfl (Rn.qt (qpick rfl rfl (pkA rfl rfl)))) ?_
    try simp only [Act.put, List.setIfInBounds_toArray, List.set_cons_zero, List.set_cons_succ]
    refine q_put (v := .bool (((B && ((p.nm 74) == 3)) && (p.bt 27)) && (!(q.bt 27)))) (yq rfl (Rn.qt (qmove rfl rfl))) ?_
    try simp only [Act.put, List.setIfInBounds_toArray, List.set_cons_zero, List.set_cons_succ]
    refine q_put (v := gd (((B && ((p.nm 74) == 3)) && (p.bt 27)) && (!(q.bt 27))) true (.pointer (some ⟨Y, 0 + 74, none⟩))) (yq1 rfl rfl (fun e => Rn.qt (qfield rfl rfl fp47))) ?_
    try simp only [Act.put, List.setIfInBounds_toArray, List.set_cons_zero, List.set_cons_succ]
    refine q_put (v := gd (((B && ((p.nm 74) == 3)) && (p.bt 27)) && (!(q.bt 27))) true (.int .i64 (q.nm 74))) (yq1 rfl rfl (fun e => Rn.qt (qload rfl (on e rfl) (S.state rfl)))) ?_
    try simp only [Act.put, List.setIfInBounds_toArray, List.set_cons_zero, List.set_cons_succ]
    refine q_put (v := gd (((B && ((p.nm 74) == 3)) && (p.bt 27)) && (!(q.bt 27))) true (.bool ((q.nm 74) == 3))) (yq1 rfl rfl (fun e => Rn.qt (qbin rfl (on e rfl) rfl (eg_state _ _ _ _ _) (eq_state _ _)))) ?_
    try simp only [Act.put, List.setIfInBounds_toArray, List.set_cons_zero, List.set_cons_succ]
    refine q_put (v := .bool ((((B && ((p.nm 74) == 3)) && (p.bt 27)) && (!(q.bt 27))) && ((q.nm 74) == 3))) (yq rfl (Rn.qt (qpick rfl rfl (pkA rfl rfl)))) ?_
    try simp only [Act.put, List.setIfInBounds_toArray, List.set_cons_zero, List.set_cons_succ]
    refine q_put (v := .bool ((((B && ((p.nm 74) == 3)) && (p.bt 27)) && (!(q.bt 27))) && ((q.nm 74) == 3))) (yq rfl (Rn.qt (qmove rfl rfl))) ?_
    try simp only [Act.put, List.setIfInBounds_toArray, List.set_cons_zero, List.set_cons_succ]
    refine q_put (v := gd ((((B && ((p.nm 74) == 3)) && (p.bt 27)) && (!(q.bt 27))) && ((q.nm 74) == 3)) true (.pointer (some ⟨Z, 0 + 17, none⟩))) (yq1 rfl rfl (fun e => Rn.qt (qfield rfl rfl fp17))) ?_
    try simp only [Act.put, List.setIfInBounds_toArray, List.set_cons_zero, List.set_cons_succ]
    refine q_put (v := gd ((((B && ((p.nm 74) == 3)) && (p.bt 27)) && (!(q.bt 27))) && ((q.nm 74) == 3)) true (.bool (p.bt 17))) (yq1 rfl rfl (fun e => Rn.qt (qload rfl (on e rfl) (R.bit rfl)))) ?_
    try simp only [Act.put, List.setIfInBounds_toArray, List.set_cons_zero, List.set_cons_succ]
    refine q_put (v := gd ((((B && ((p.nm 74) == 3)) && (p.bt 27)) && (!(q.bt 27))) && ((q.nm 74) == 3)) true (.bool (!(p.bt 17)))) (yq1 rfl rfl (fun e => Rn.qt (qnot rfl (on e rfl)))) ?_
    try simp only [Act.put, List.setIfInBounds_toArray, List.set_cons_zero, List.set_cons_succ]
    refine q_put (v := .bool (((((B && ((p.nm 74) == 3)) && (p.bt 27)) && (!(q.bt 27))) && ((q.nm 74) == 3)) && (!(p.bt 17)))) (yq rfl (Rn.qt (qpick rfl rfl (pkA rfl rfl)))) ?_
    try simp only [Act.put, List.setIfInBounds_toArray, List.set_cons_zero, List.set_cons_succ]
    refine q_put (v := .bool (((((B && ((p.nm 74) == 3)) && (p.bt 27)) && (!(q.bt 27))) && ((q.nm 74) == 3)) && (!(p.bt 17)))) (yq rfl (Rn.qt (qmove rfl rfl))) ?_
    try simp only [Act.put, List.setIfInBounds_toArray, List.set_cons_zero, List.set_cons_succ]
    refine q_put (v := gd (((((B && ((p.nm 74) == 3)) && (p.bt 27)) && (!(q.bt 27))) && ((q.nm 74) == 3)) && (!(p.bt 17))) true (.pointer (some ⟨Z, 0 + 19, none⟩))) (yq1 rfl rfl (fun e => Rn.qt (qfield rfl rfl fp19))) ?_
    try simp only [Act.put, List.setIfInBounds_toArray, List.set_cons_zero, List.set_cons_succ]
    refine q_put (v := gd (((((B && ((p.nm 74) == 3)) && (p.bt 27)) && (!(q.bt 27))) && ((q.nm 74) == 3)) && (!(p.bt 17))) true (.bool (p.bt 19))) (yq1 rfl rfl (fun e => Rn.qt (qload rfl (on e rfl) (R.bit rfl)))) ?_
    try simp only [Act.put, List.setIfInBounds_toArray, List.set_cons_zero, List.set_cons_succ]
    refine q_put (v := gd (((((B && ((p.nm 74) == 3)) && (p.bt 27)) && (!(q.bt 27))) && ((q.nm 74) == 3)) && (!(p.bt 17))) true (.bool (!(p.bt 19)))) (yq1 rfl rfl (fun e => Rn.qt (qnot rfl (on e rfl)))) ?_
    try simp only [Act.put, List.setIfInBounds_toArray, List.set_cons_zero, List.set_cons_succ]
    refine q_put (v := .bool ((((((B && ((p.nm 74) == 3)) && (p.bt 27)) && (!(q.bt 27))) && ((q.nm 74) == 3)) && (!(p.bt 17))) && (!(p.bt 19)))) (yq rfl (Rn.qt (qpick rfl rfl (pkA rfl rfl)))) ?_
    try simp only [Act.put, List.setIfInBounds_toArray, List.set_cons_zero, List.set_cons_succ]
    refine q_put (v := .bool ((((((B && ((p.nm 74) == 3)) && (p.bt 27)) && (!(q.bt 27))) && ((q.nm 74) == 3)) && (!(p.bt 17))) && (!(p.bt 19)))) (yq rfl (Rn.qt (qassign rfl rfl))) ?_
    try simp only [Act.put, List.setIfInBounds_toArray, List.set_cons_zero, List.set_cons_succ]
    refine wpQuiet_nil ?_
    rintro y hy
    rw [hy]
    clear hy y
    rw [ET.out]
    clear ET
    go_upto_region 11 with fail
    refine wp_plain (C := fun w' => w' = X3) rfl ?_
    refine q_put (v := .bool B) (yq rfl (Rn.qt (qmove rfl rfl))) ?_
    try simp only [Act.put, List.setIfInBounds_toArray, List.set_cons_zero, List.set_cons_succ]
    refine q_put (v := .bool B) (yq rfl (Rn.qt (qmove rfl rfl))) ?_
    try simp only [Act.put, List.setIfInBounds_toArray, List.set_cons_zero, List.set_cons_succ]
    refine q_put (v := gd B true (.pointer (some ⟨Y, 0 + 74, none⟩))) (yq1 rfl rfl (fun e => Rn.qt (qfield rfl rfl fp47))) ?_
    try simp only [Act.put, List.setIfInBounds_toArray, List.set_cons_zero, List.set_cons_succ]
    refine q_put (v := gd B true (.int .i64 (q.nm 74))) (yq1 rfl rfl (fun e => Rn.qt (qload rfl (on e rfl) (S.state rfl)))) ?_
    try simp only [Act.put, List.setIfInBounds_toArray, List.set_cons_zero, List.set_cons_succ]
    refine q_put (v := gd B true (.bool ((q.nm 74) == 1))) (yq1 rfl rfl (fun e => Rn.qt (qbin rfl (on e rfl) rfl (eg_state _ _ _ _ _) (eq_state _ _)))) ?_
    try simp only [Act.put, List.setIfInBounds_toArray, List.set_cons_zero, List.set_cons_succ]
    refine q_put (v := .bool (B && ((q.nm 74) == 1))) (yq rfl (Rn.qt (qpick rfl rfl (pkA rfl rfl)))) ?_
    try simp only [Act.put, List.setIfInBounds_toArray, List.set_cons_zero, List.set_cons_succ]
    refine q_put (v := .bool (B && ((q.nm 74) == 1))) (yq rfl (Rn.qt (qassign rfl rfl))) ?_
    try simp only [Act.put, List.setIfInBounds_toArray, List.set_cons_zero, List.set_cons_succ]
    refine wpQuiet_nil ?_
    rintro y hy
    rw [hy]
    clear hy y
    rw [EU.out]
    clear EU R S
    have cp := K.out.1.pbit (j := 6) rfl
    have cq := K.out.2.1.pbit (j := 6) rfl
    rw [HF.out] at cq
    obtain ⟨P6, hP6⟩ : ∃ z, p.bt 6 = z := ⟨_, rfl⟩
    rw [hP6] at cp cq
    clear hP6 HF
    cases P6
    · cases TO
      · cases QU
        · simp only [Bool.or_self, Bool.or_false, Bool.false_or] at cq
          go_wp2_with fail
          refine (awake_any X3).mono ?_
          rintro _ V5 ⟨rfl, b5⟩
          have F : Hid (Below w.heap.size w V5) := below_over K.out.2.2 b5
          clear b5 K cp cq
          go_wp2
          go_ret
          exact ⟨rfl, F.out⟩
        · simp only [Bool.or_self, Bool.or_false, Bool.false_or, Bool.or_true] at cq
          go_wp2_with fail
          refine (awake_any X3).mono ?_
          rintro _ V5 ⟨rfl, b5⟩
          have F : Hid (Below w.heap.size w V5) := below_over K.out.2.2 b5
          clear b5 K cp cq
          go_wp2
          go_ret
          exact ⟨rfl, F.out⟩
      · simp only [Bool.or_true, Bool.true_or, Bool.false_or] at cq
        go_wp2_with fail
        refine (awake_any X3).mono ?_
        rintro _ V5 ⟨rfl, b5⟩
        have F : Hid (Below w.heap.size w V5) := below_over K.out.2.2 b5
        clear b5 K cp cq
        go_wp2
        go_ret
        exact ⟨rfl, F.out⟩
    · simp only [Bool.true_or] at cq
      go_wp2_with fail
      refine (awake_any X3).mono ?_
      rintro _ V5 ⟨rfl, b5⟩
      have F : Hid (Below w.heap.size w V5) := below_over K.out.2.2 b5
      clear b5 K cp cq
      go_wp2
      go_ret
      exact ⟨rfl, F.out⟩
end Go.Proofs.Ytfjigbmhheekbab
