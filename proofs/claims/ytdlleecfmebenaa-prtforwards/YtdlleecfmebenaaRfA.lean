/-
  The definition's changes of a port: the walks of begin, role, rests, loose, twice.
-/
import Derived.Test.YtdlleecfmebenaaPur
namespace Go.Proofs.Ytdlleecfmebenaa
set_option linter.unusedVariables false
set_option maxRecDepth 4000
set_option linter.unusedSimpArgs false
open Go.RowKit

theorem RvAt.rdE {W : World} {b : Nat} {p : Pt} (r : RvAt W b 45 p.cs) : Prd (fun w' => w' = W) b 0 p := ⟨fun j v hv w hw => by
  subst hw
  rw [Nat.zero_add]
  exact r.cell j v (by rw [Row.cget]; exact hv)⟩
theorem RvAt.rdL {W : World} {b : Nat} {p : Pt} (r : RvAt W b 45 p.cs) : Prd (fun w' => ∃ x : Later W, w' = x.val) b 0 p := ⟨fun j v hv w hw => by
  obtain ⟨x, rfl⟩ := hw
  rw [Nat.zero_add]
  exact (r.below x.below).cell j v (by rw [Row.cget]; exact hv)⟩
/-- The definition's, in its own order. -/
def rbegP (p : Pt) : Pt := (((((((((p.setN 30 kn30 0 wi0).setB 9 kb9 false).setB 7 kb7 false).setB 25 kb25 false).setB 24 kb24 true).setB 20 kb20 true).setU 70 (p.nm 43)).setU 65 (p.nm 41)).setU 68 0).setN 73 kn73 1 wi1
def rstP (p : Pt) (x : Int) (s : Int) (hs : (Lit.int .i64 s).wf = true) : Pt := (((((p.setU 65 x).setU 70 0).setB 25 kb25 true).setB 24 kb24 false).setB 20 kb20 false).setN 73 kn73 s hs
attribute [local go_sem ↓] ldP stP stB stU st49 stW
attribute [local go_sem ↓] alP
attribute [local go_sem] alP_run
set_option maxHeartbeats 2000000 in
theorem rbeg_any (p : Pt) (w : World) :
    Calls Try.prog 18 #[.agg p.cs] w fun r w' => r = .returned (.agg (rbegP p).cs) ∧ Below w.heap.size w w' := by
  obtain ⟨W0, hW, S0⟩ := PS.start w p
  obtain ⟨W1, s1, S1⟩ := S0.setN (t := 39) info1.2.2.2.1 kn30 (n := 0) wi0
  obtain ⟨W2, s2, S2⟩ := S1.setB kb9 false
  obtain ⟨W3, s3, S3⟩ := S2.setB kb7 false
  obtain ⟨W4, s4, S4⟩ := S3.setB kb25 false
  obtain ⟨W5, s5, S5⟩ := S4.setB kb24 true
  obtain ⟨W6, s6, S6⟩ := S5.setB kb20 true
  have l43 := S6.var.pnum (j := 43) (k := .u8) rfl
  have l41 := S6.var.pnum (j := 41) (k := .u8) rfl
  have e43 : (((((((p.setN 30 kn30 (0) wi0).setB 9 kb9 false).setB 7 kb7 false).setB 25 kb25 false).setB 24 kb24 true).setB 20 kb20 true)).nm 43 = p.nm 43 := by
    refine nm_of ?_
    simp only [Row.setB_get, Row.setN_get]
    rfl
  have e41 : (((((((p.setN 30 kn30 (0) wi0).setB 9 kb9 false).setB 7 kb7 false).setB 25 kb25 false).setB 24 kb24 true).setB 20 kb20 true)).nm 41 = p.nm 41 := by
    refine nm_of ?_
    simp only [Row.setB_get, Row.setN_get]
    rfl
  rw [e43] at l43
  rw [e41] at l41
  obtain ⟨W7, s7, S7⟩ := S6.setU ku70 (n := p.nm 43) (p.u8 rfl)
  obtain ⟨W8, s8, S8⟩ := S7.setU ku65 (n := p.nm 41) (p.u8 rfl)
  obtain ⟨W9, s9, S9⟩ := S8.setU ku68 (n := 0) (by omega)
  obtain ⟨W10, s10, S10⟩ := S9.setN infoS kn73 (n := 1) wi1
  have lX := S10.ld
  obtain ⟨U, sU, G0⟩ := S10.tell (rbegP p)
  have G : Hid (RvAt U (w.heap.size + 1) 45 (rbegP p).cs ∧ Below w.heap.size w U) := G0
  clear G0 S0 S1 S2 S3 S4 S5 S6 S7 S8 S9 S10 e43 e41
  change (ldS 45 (.pointer (some ⟨w.heap.size, 0, none⟩))).run Try.prog W10 = .ok (.agg (rbegP p).cs) W10 at lX
  go_enter Try.func18, Try.ntmps18
  go_wp2_with (with_reducible exact ret_port Try.results18 (by with_unfolding_all rfl) (by with_unfolding_all rfl) G.out.1 ⟨rfl, G.out.2⟩)
theorem beg_ref (p : Pt) : rbegP p = begP p := by
  have h43 : (begA p).nm 43 = p.nm 43 := by
    refine nm_of ?_
    simp only [begA, Row.setB_get, Row.setN_get]
    rfl
  have h41 : (begA p).nm 41 = p.nm 41 := by
    refine nm_of ?_
    simp only [begA, Row.setB_get, Row.setN_get]
    rfl
  refine Row.same fun k _ => ?_
  unfold begP
  rw [h43, h41]
  simp only [rbegP, begA, Row.setB_get, Row.setN_get, Row.setU_get _ ku70 (wf8 (p.u8 (j := 43) rfl)), Row.setU_get _ ku65 (wf8 (p.u8 (j := 41) rfl)), Row.setU_get _ ku68 (wf8 (n := 0) (by omega))]
  by_cases h1 : k = 73
  · subst h1; simp
  · simp only [if_neg h1]
set_option maxHeartbeats 2000000 in
theorem rrst_any (p : Pt) (x s : Int) (w : World) (hx : 0 ≤ x ∧ x ≤ 255) (hs : (Lit.int .i64 s).wf = true) :
    Calls Try.prog 20 #[.agg p.cs, .int .u8 x, .int .i64 s] w fun r w' => r = .returned (.agg (rstP p x s hs).cs) ∧ Below w.heap.size w w' := by
  obtain ⟨W0, hW, S0⟩ := PS.start w p
  obtain ⟨W1, s1, S1⟩ := S0.setU ku65 (n := x) hx
  obtain ⟨W2, s2, S2⟩ := S1.setU ku70 (n := 0) (by omega)
  obtain ⟨W3, s3, S3⟩ := S2.setB kb25 true
  obtain ⟨W4, s4, S4⟩ := S3.setB kb24 false
  obtain ⟨W5, s5, S5⟩ := S4.setB kb20 false
  obtain ⟨W6, s6, S6⟩ := S5.setN infoS kn73 (n := s) hs
  have lX := S6.ld
  obtain ⟨U, sU, G0⟩ := S6.tell (rstP p x s hs)
  have G : Hid (RvAt U (w.heap.size + 1) 45 (rstP p x s hs).cs ∧ Below w.heap.size w U) := G0
  clear G0 S0 S1 S2 S3 S4 S5 S6
  change (ldS 45 (.pointer (some ⟨w.heap.size, 0, none⟩))).run Try.prog W6 = .ok (.agg (rstP p x s hs).cs) W6 at lX
  go_enter Try.func20, Try.ntmps20
  go_wp2_with (with_reducible exact ret_port Try.results20 (by with_unfolding_all rfl) (by with_unfolding_all rfl) G.out.1 ⟨rfl, G.out.2⟩)
theorem rst_get (p : Pt) : (restP p).nm 41 = p.nm 41 ∧ (restP p).nm 43 = p.nm 43 := by
  refine ⟨nm_of ?_, nm_of ?_⟩ <;> (simp only [restP, Row.setU_get _ ku70 (wf8 (n := 0) (by omega)), Row.setB_get]; rfl)
theorem rst_ref {p : Pt} {x s : Int} (hx : 0 ≤ x ∧ x ≤ 255) (hs : (Lit.int .i64 s).wf = true) : rstP p x s hs = ((restP p).setU 65 x).setN 73 kn73 s hs := by
  refine Row.same fun k _ => ?_
  simp only [rstP, restP, Row.setB_get, Row.setN_get, Row.setU_get _ ku70 (wf8 (n := 0) (by omega)), Row.setU_get _ ku65 (wf8 hx)]
  by_cases h1 : k = 65
  · subst h1; simp
  · simp only [if_neg h1]
    by_cases h2 : k = 70
    · subst h2; simp
    · simp only [if_neg h2]
theorem dis_ref (p : Pt) : rstP p (p.nm 41) 2 wi2 = disP p := by
  rw [rst_ref (p.u8 rfl)]
  unfold disP
  rw [(rst_get p).1]
theorem blk_ref (p : Pt) : rstP p (p.nm 43) 6 wi6 = blkP p := by
  rw [rst_ref (p.u8 rfl)]
  unfold blkP
  rw [(rst_get p).2]
theorem tak_get (p : Pt) : (takP p).nm 30 = p.nm 31 ∧ (takP p).nm 43 = p.nm 43 := ⟨p.nset (fit_num kn30 (p.nwf kn31)) (by decide), nm_of (by simp only [takP, Row.setN_get]; rfl)⟩
set_option maxHeartbeats 4000000 in
theorem rrol_any (p : Pt) (w : World) :
    Calls Try.prog 19 #[.agg p.cs] w fun r w' => r = .returned (.agg (rolP p).cs) ∧ Below w.heap.size w w' := by
  obtain ⟨W0, hW, S0⟩ := PS.start w p
  have l31 := S0.var.pnum (j := 31) (k := .i64) rfl
  obtain ⟨W1, s1, S1⟩ := S0.setN (t := 39) info1.2.2.2.1 kn30 (n := p.nm 31) (p.nwf kn31)
  have S1 : PS w W1 w.heap.size (w.heap.size + 1) (takP p) := S1
  have l30 := S1.var.pnum (j := 30) (k := .i64) rfl
  rw [(tak_get p).1] at l30
  obtain ⟨N, hN⟩ : ∃ N, p.nm 31 = N := ⟨_, rfl⟩
  have EN : Hid (p.nm 31 = N) := hN
  rw [hN] at l31 s1 l30
  have H1 : Hid (PS w W1 w.heap.size (w.heap.size + 1) (takP p)) := S1
  clear S0 S1 hN
  by_cases h3 : N = 3
  · subst h3
    have l43 := H1.out.var.pnum (j := 43) (k := .u8) rfl
    have E : rolP p = becRoot (takP p) := by
      unfold rolP
      rw [EN.out]; rfl
    rw [E]
    have S1 := H1.out
    obtain ⟨W2, s2, S2⟩ := S1.setU ku70 (n := (takP p).nm 43) ((takP p).u8 rfl)
    obtain ⟨W3, s3, S3⟩ := S2.setN infoS kn73 (n := 3) wi3
    have lX := S3.ld
    obtain ⟨U, sU, G0⟩ := S3.tell (becRoot (takP p))
    have G : Hid (RvAt U (w.heap.size + 1) 45 (becRoot (takP p)).cs ∧ Below w.heap.size w U) := G0
    clear G0 S1 S2 S3 E
    change (ldS 45 (.pointer (some ⟨w.heap.size, 0, none⟩))).run Try.prog W3 = .ok (.agg (becRoot (takP p)).cs) W3 at lX
    go_enter Try.func19, Try.ntmps19
    go_wp2_with (with_reducible exact ret_port Try.results19 (by with_unfolding_all rfl) (by with_unfolding_all rfl) G.out.1 ⟨rfl, G.out.2⟩)
  by_cases h4 : N = 4
  · subst h4
    have E : rolP p = becDsg (takP p) := by
      unfold rolP
      rw [EN.out]; rfl
    rw [E]
    have S1 := H1.out
    obtain ⟨W2, s2, S2⟩ := S1.setN infoS kn73 (n := 4) wi4
    have lX := S2.ld
    obtain ⟨U, sU, G0⟩ := S2.tell (becDsg (takP p))
    have G : Hid (RvAt U (w.heap.size + 1) 45 (becDsg (takP p)).cs ∧ Below w.heap.size w U) := G0
    clear G0 S1 S2 E
    change (ldS 45 (.pointer (some ⟨w.heap.size, 0, none⟩))).run Try.prog W2 = .ok (.agg (becDsg (takP p)).cs) W2 at lX
    go_enter Try.func19, Try.ntmps19
    go_wp2_with (with_reducible exact ret_port Try.results19 (by with_unfolding_all rfl) (by with_unfolding_all rfl) G.out.1 ⟨rfl, G.out.2⟩)
  by_cases h0 : N = 0
  · subst h0
    have E : rolP p = becDis (takP p) := by
      unfold rolP
      rw [EN.out]; rfl
    rw [E]
    have S1 := H1.out
    obtain ⟨W2, s2, S2⟩ := S1.setB kb9 false
    obtain ⟨W3, s3, S3⟩ := S2.setB kb7 false
    obtain ⟨W4, s4, S4⟩ := S3.setN infoS kn73 (n := 5) wi5
    obtain ⟨W5, s5, S5⟩ := S4.setN infoS kn73 (n := 1) wi1
    have e5 : (((((takP p).setB 9 kb9 false).setB 7 kb7 false).setN 73 kn73 (5) wi5).setN 73 kn73 (1) wi1) = becDis (takP p) := by
      refine Row.same fun k _ => ?_
      simp only [becDis, Row.setB_get, Row.setN_get]
      by_cases h1 : k = 73
      · subst h1; simp
      · simp only [if_neg h1]
    have l30 := S4.var.pnum (j := 30) (k := .i64) rfl
    have e30 : ((((takP p).setB 9 kb9 false).setB 7 kb7 false).setN 73 kn73 5 wi5).nm 30 = 0 := by
      have q := (tak_get p).1
      rw [EN.out] at q
      rw [← q]
      refine nm_of ?_
      simp only [Row.setB_get, Row.setN_get]
      rfl
    rw [e30] at l30
    rw [e5] at S5
    have lX := S5.ld
    obtain ⟨U, sU, G0⟩ := S5.tell (becDis (takP p))
    have G : Hid (RvAt U (w.heap.size + 1) 45 (becDis (takP p)).cs ∧ Below w.heap.size w U) := G0
    clear G0 S1 S2 S3 S4 S5 E e5 e30
    go_enter Try.func19, Try.ntmps19
    go_wp2_with (with_reducible exact ret_port Try.results19 (by with_unfolding_all rfl) (by with_unfolding_all rfl) G.out.1 ⟨rfl, G.out.2⟩)
  · have x3 : (N == 3) = false := by simpa using h3
    have x4 : (N == 4) = false := by simpa using h4
    have x0 : (N == 0) = false := by simpa using h0
    have E : rolP p = becBlk (takP p) := by
      unfold rolP
      rw [EN.out, if_neg h0, if_neg h3, if_neg h4]
    rw [E]
    have S1 := H1.out
    obtain ⟨W2, s2, S2⟩ := S1.setB kb9 false
    obtain ⟨W3, s3, S3⟩ := S2.setB kb7 false
    obtain ⟨W4, s4, S4⟩ := S3.setN infoS kn73 (n := 5) wi5
    have lX := S4.ld
    obtain ⟨U, sU, G0⟩ := S4.tell (becBlk (takP p))
    have G : Hid (RvAt U (w.heap.size + 1) 45 (becBlk (takP p)).cs ∧ Below w.heap.size w U) := G0
    have l30' := S4.var.pnum (j := 30) (k := .i64) rfl
    have e30 : ((((takP p).setB 9 kb9 false).setB 7 kb7 false).setN 73 kn73 5 wi5).nm 30 = N := by
      have q := (tak_get p).1
      rw [EN.out] at q
      rw [← q]
      refine nm_of ?_
      simp only [Row.setB_get, Row.setN_get]
      rfl
    rw [e30] at l30'
    clear G0 S1 S2 S3 S4 E e30
    change (ldS 45 (.pointer (some ⟨w.heap.size, 0, none⟩))).run Try.prog W4 = .ok (.agg (becBlk (takP p)).cs) W4 at lX
    go_enter Try.func19, Try.ntmps19
    go_wp2_with (with_reducible exact ret_port Try.results19 (by with_unfolding_all rfl) (by with_unfolding_all rfl) G.out.1 ⟨rfl, G.out.2⟩)
set_option maxHeartbeats 2000000 in
theorem rloo_any (p : Pt) (x : Int) (w : World) :
    Calls Try.prog 21 #[.agg p.cs, .int .u8 x] w fun r w' => r = .returned (.bool ((p.nm 65 != x) || askP p)) ∧ Below w.heap.size w w' := by
  obtain ⟨W, hW, r0, bW⟩ := one_p w p
  have R := r0.rdE
  have E : Hid (((p.nm 65 != x) || askP p) = ((((p.nm 65 != x) || p.bt 24) || p.bt 20) || !p.bt 25)) := by
    unfold askP
    cases (p.nm 65 != x) <;> cases p.bt 24 <;> rfl
  rw [E.out]
  have H : Hid (Below w.heap.size w W) := bW
  obtain ⟨z, hz⟩ : ∃ z, w.heap.size = z := ⟨_, rfl⟩
  rw [hz] at R H ⊢
  clear r0 bW E
  go_enter Try.func21, Try.ntmps21
  go_upto_region 1 with fail
  refine wp_plain (C := fun w' => w' = W) rfl ?_
  refine q_put (v := .pointer (some ⟨z, 0 + 65, none⟩)) (yq rfl (Rn.qt (qfield rfl rfl fp38))) ?_
  try simp only [Act.put, List.setIfInBounds_toArray, List.set_cons_zero, List.set_cons_succ]
  refine q_put (v := .int .u8 (p.nm 65)) (yq rfl (Rn.qt (qload rfl rfl (R.u8 rfl)))) ?_
  try simp only [Act.put, List.setIfInBounds_toArray, List.set_cons_zero, List.set_cons_succ]
  refine q_put (v := .int .u8 x) (yq rfl (Rn.qt (qmove rfl rfl))) ?_
  try simp only [Act.put, List.setIfInBounds_toArray, List.set_cons_zero, List.set_cons_succ]
  refine q_put (v := .bool ((p.nm 65) != x)) (yq rfl (Rn.qt (qbin rfl rfl rfl (eg_u8 _ _ _ _ _) (ne_u8 _ _)))) ?_
  try simp only [Act.put, List.setIfInBounds_toArray, List.set_cons_zero, List.set_cons_succ]
  refine q_put (v := .bool ((p.nm 65) != x)) (yq rfl (Rn.qt (qmove rfl rfl))) ?_
  try simp only [Act.put, List.setIfInBounds_toArray, List.set_cons_zero, List.set_cons_succ]
  refine q_put (v := gd ((p.nm 65) != x) false (.pointer (some ⟨z, 0 + 24, none⟩))) (yq1 rfl rfl (fun e => Rn.qt (qfield rfl rfl fp24))) ?_
  try simp only [Act.put, List.setIfInBounds_toArray, List.set_cons_zero, List.set_cons_succ]
  refine q_put (v := gd ((p.nm 65) != x) false (.bool (p.bt 24))) (yq1 rfl rfl (fun e => Rn.qt (qload rfl (on e rfl) (R.bit rfl)))) ?_
  try simp only [Act.put, List.setIfInBounds_toArray, List.set_cons_zero, List.set_cons_succ]
  refine q_put (v := .bool (((p.nm 65) != x) || (p.bt 24))) (yq rfl (Rn.qt (qpick rfl rfl (pkO rfl rfl)))) ?_
  try simp only [Act.put, List.setIfInBounds_toArray, List.set_cons_zero, List.set_cons_succ]
  refine q_put (v := .bool (((p.nm 65) != x) || (p.bt 24))) (yq rfl (Rn.qt (qmove rfl rfl))) ?_
  try simp only [Act.put, List.setIfInBounds_toArray, List.set_cons_zero, List.set_cons_succ]
  refine q_put (v := gd (((p.nm 65) != x) || (p.bt 24)) false (.pointer (some ⟨z, 0 + 20, none⟩))) (yq1 rfl rfl (fun e => Rn.qt (qfield rfl rfl fp20))) ?_
  try simp only [Act.put, List.setIfInBounds_toArray, List.set_cons_zero, List.set_cons_succ]
  refine q_put (v := gd (((p.nm 65) != x) || (p.bt 24)) false (.bool (p.bt 20))) (yq1 rfl rfl (fun e => Rn.qt (qload rfl (on e rfl) (R.bit rfl)))) ?_
  try simp only [Act.put, List.setIfInBounds_toArray, List.set_cons_zero, List.set_cons_succ]
  refine q_put (v := .bool ((((p.nm 65) != x) || (p.bt 24)) || (p.bt 20))) (yq rfl (Rn.qt (qpick rfl rfl (pkO rfl rfl)))) ?_
  try simp only [Act.put, List.setIfInBounds_toArray, List.set_cons_zero, List.set_cons_succ]
  refine q_put (v := .bool ((((p.nm 65) != x) || (p.bt 24)) || (p.bt 20))) (yq rfl (Rn.qt (qmove rfl rfl))) ?_
  try simp only [Act.put, List.setIfInBounds_toArray, List.set_cons_zero, List.set_cons_succ]
  refine q_put (v := gd ((((p.nm 65) != x) || (p.bt 24)) || (p.bt 20)) false (.pointer (some ⟨z, 0 + 25, none⟩))) (yq1 rfl rfl (fun e => Rn.qt (qfield rfl rfl fp25))) ?_
  try simp only [Act.put, List.setIfInBounds_toArray, List.set_cons_zero, List.set_cons_succ]
  refine q_put (v := gd ((((p.nm 65) != x) || (p.bt 24)) || (p.bt 20)) false (.bool (p.bt 25))) (yq1 rfl rfl (fun e => Rn.qt (qload rfl (on e rfl) (R.bit rfl)))) ?_
  try simp only [Act.put, List.setIfInBounds_toArray, List.set_cons_zero, List.set_cons_succ]
  refine q_put (v := gd ((((p.nm 65) != x) || (p.bt 24)) || (p.bt 20)) false (.bool (!(p.bt 25)))) (yq1 rfl rfl (fun e => Rn.qt (qnot rfl (on e rfl)))) ?_
  try simp only [Act.put, List.setIfInBounds_toArray, List.set_cons_zero, List.set_cons_succ]
  refine q_put (v := .bool (((((p.nm 65) != x) || (p.bt 24)) || (p.bt 20)) || (!(p.bt 25)))) (yq rfl (Rn.qt (qpick rfl rfl (pkO rfl rfl)))) ?_
  try simp only [Act.put, List.setIfInBounds_toArray, List.set_cons_zero, List.set_cons_succ]
  refine q_put (v := .bool (((((p.nm 65) != x) || (p.bt 24)) || (p.bt 20)) || (!(p.bt 25)))) (yq rfl (Rn.qt (qassign rfl rfl))) ?_
  try simp only [Act.put, List.setIfInBounds_toArray, List.set_cons_zero, List.set_cons_succ]
  refine wpQuiet_nil ?_
  rintro _ rfl
  go_wp2
  go_ret
  exact ⟨rfl, H.out⟩
theorem rtw_any (n : Int) (w : World) (hn : 0 ≤ n ∧ n ≤ 255) : Calls Try.prog 36 #[.int .u8 n] w fun r w' => r = .returned (.int .u8 (twN n)) ∧ Below w.heap.size w w' := by
  have h1 : IntKind.i64.wrap n = n := IntWalk.i64_in _ (by omega)
  have h2 : IntKind.i64.wrap (2 * n) = 2 * n := IntWalk.i64_in _ (by omega)
  have hw : ∀ m : Int, 0 ≤ m ∧ m ≤ 255 → IntKind.u8.wrap m = m := fun m hm => by
    show m % 256 = m
    omega
  go_enter Try.func36, Try.ntmps36
  go_wp2
  all_goals
    go_ret
    refine ⟨ret_int ?_, Below.refl _ _⟩
    unfold twN
    first | (split <;> omega) | (rw [hw _ (by omega)]; split <;> omega)
end Go.Proofs.Ytdlleecfmebenaa
