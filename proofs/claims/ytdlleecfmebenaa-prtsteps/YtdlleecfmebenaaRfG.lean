/-
  A tree's variable, the result's and a port's of the definition; how it agrees: the walk of agrees.
-/
import Derived.Test.YtdlleecfmebenaaRfD
import Derived.Test.YtdlleecfmebenaaNew
namespace Go.Proofs.Ytdlleecfmebenaa
set_option linter.unusedVariables false
set_option maxRecDepth 4000
set_option linter.unusedSimpArgs false
open Go.RowKit

theorem SlAt.low {W : World} {g o n c : Nat} {l : List Pt} (hs : SlAt W (some ⟨g, o, none⟩) n c l) (hn : 0 < n) : g < W.heap.size := by
  obtain ⟨b, o', e, hc⟩ := hs.cells _ rfl hn
  cases e
  have hl := hs.len
  exact World.block_lt_of_cell? W _ (hc 0 _ (List.getElem?_eq_getElem (by rw [flat_len]; omega)))
/-- A tree's variable, the result's, and a port's. -/
structure TP (w W : World) (t d z : Nat) (h : Hd) (g o n c : Nat) (l : List Pt) (p : Pt) : Prop where
  tre : TS w W t d h (.slice (some ⟨g, o, none⟩) n c)
  sl : SlAt W (some ⟨g, o, none⟩) n c l
  pv : RvAt W z 45 p.cs
  hz : w.heap.size ≤ z
  lt : g < w.heap.size
theorem TP.below {w W V : World} {t d z g o n c : Nat} {h : Hd} {l : List Pt} {p : Pt} (s : TP w W t d z h g o n c l p) (e : Below W.heap.size W V) : TP w V t d z h g o n c l p := ⟨s.tre.below e, s.sl.below e, s.pv.below e, s.hz, s.lt⟩
theorem TP.go {w W V : World} {t d z g o n c : Nat} {h : Hd} {l : List Pt} {p q : Pt} (s : TP w W t d z h g o n c l p) (r : RvAt V z 45 q.cs) (e : W.grownBy V (some z)) : TP w V t d z h g o n c l q :=
  have n1 : t ≠ z := s.tre.var.apart s.pv (by decide)
  have n2 : d ≠ z := s.tre.out.apart s.pv (by decide)
  ⟨⟨s.tre.var.keptBut e (by simpa using n1), s.tre.out.keptBut e (by simpa using n2), gro s.tre.bel e s.hz s.tre.bel.size, s.tre.hd⟩, s.sl.keptBut e (fun x hx e' => by cases hx; have := s.lt; have := s.hz; simp only [Option.some.injEq] at e'; omega), r, s.hz, s.lt⟩
theorem TP.setB {w W : World} {t d z g o n c j : Nat} {h : Hd} {l : List Pt} {p : Pt} (s : TP w W t d z h g o n c l p) (hk : kdP[j]? = some none) (x : Bool) : ∃ V, (stS 4 (.pointer (some ⟨z, j, none⟩)) (.bool x)).run Try.prog W = .ok () V ∧ TP w V t d z h g o n c l (p.setB j hk x) := by
  obtain ⟨V, e, h1, g⟩ := s.pv.setB hk x
  exact ⟨V, e, s.go h1 g⟩
theorem TP.setU {w W : World} {t d z g o n c j : Nat} {h : Hd} {l : List Pt} {p : Pt} (s : TP w W t d z h g o n c l p) (hk : kdP[j]? = some (some .u8)) {x : Int} (hx : 0 ≤ x ∧ x ≤ 255) : ∃ V, (stS 5 (.pointer (some ⟨z, j, none⟩)) (.int .u8 x)).run Try.prog W = .ok () V ∧ TP w V t d z h g o n c l (p.setU j x) := by
  obtain ⟨V, e, h1, g⟩ := s.pv.setU hk hx
  exact ⟨V, e, s.go h1 g⟩
/-- What becomes of the ports where one answers, if anything. -/
def agrO (l : List Pt) (k : Nat) : Option (List Pt) :=
  if prpB (gtP l k) = true then some ((l.set k (prdP (gtP l k))).map syncP) else if ansB l k = true then some (l.set k (if (gtP l k).nm 73 = 3 then agrRP (gtP l k) else agrP (gtP l k))) else none
attribute [local go_sem ↓] ldP stP stB stU stW ldT stT
attribute [local go_sem ↓] alP
attribute [local go_sem] alP_run
set_option maxHeartbeats 8000000 in
theorem ragr_any (h : Hd) (g o n c : Nat) (l : List Pt) (k : Nat) (w : World) (hs : SlAt w (some ⟨g, o, none⟩) n c l) (hn : n ≤ 1000) (hk : k < n) :
    Calls Try.prog 32 #[.agg (trc h (.slice (some ⟨g, o, none⟩) n c)), .int .i64 (k : Int)] w fun r w' => ∃ a' c', r = .returned (.tuple #[.agg (trc h (.slice a' n c')), .bool (agrO l k).isSome]) ∧ SlAt w' a' n c' ((agrO l k).getD l) ∧ Below w.heap.size w w' := by
  obtain ⟨OO, hOO⟩ : ∃ z, agrO l k = z := ⟨_, rfl⟩
  rw [hOO]
  have EO : Hid (agrO l k = OO) := hOO
  clear hOO
  have HL : Hid (l.length = n) := hs.len
  have hkl : k < l.length := by rw [HL.out]; exact hk
  have hin0 : (0 : Int) ≤ (k : Int) := by omega
  have hin1 : (k : Int) < (n : Int) := by omega
  obtain ⟨W, hW, r0, r1, bW, zW⟩ := two_t w h (.slice (some ⟨g, o, none⟩) n c)
  have l0 := r0.tld
  have c16 := r0.t16
  have H : Hid (TS w W w.heap.size (w.heap.size + 1) h (.slice (some ⟨g, o, none⟩) n c) ∧ SlAt W (some ⟨g, o, none⟩) n c l ∧ W.heap.size = w.heap.size + 2) := ⟨⟨r0, r1, bW, by omega⟩, hs.below bW, zW⟩
  have GL : Hid (g < w.heap.size) := hs.low (by omega)
  have lp := (hs.below bW).ld (gtP_at hkl)
  obtain ⟨p, hp⟩ : ∃ p, gtP l k = p := ⟨_, rfl⟩
  have HP : Hid (gtP l k = p) := hp
  rw [hp] at lp
  obtain ⟨W0, s0, r0', b0, z0⟩ := var_p W p
  obtain ⟨Z, hZ⟩ : ∃ Z, W.heap.size = Z := ⟨_, rfl⟩
  rw [hZ] at s0 r0'
  have T0 : Hid (TP w W0 w.heap.size (w.heap.size + 1) Z h g o n c l p) := ⟨H.out.1.below b0, H.out.2.1.below b0, r0', by have := H.out.2.2; omega, GL.out⟩
  obtain ⟨C0, hC0⟩ : ∃ z, prpB p = z := ⟨_, rfl⟩
  have EC0 : Hid (prpB p = C0) := hC0
  obtain ⟨M, hM⟩ : ∃ z, inS l k = z := ⟨_, rfl⟩
  have EM : Hid (inS l k = M) := hM
  obtain ⟨C1, hC1⟩ : ∃ z, ((M && !p.bt 3) || (p.bt 12 && p.bt 3)) = z := ⟨_, rfl⟩
  have EC1 : Hid (ansB l k = C1) := by rw [← hC1, ← hM, ← hp]; rfl
  have HC1 : Hid (((M && !p.bt 3) || (p.bt 12 && p.bt 3)) = C1) := hC1
  have R := r0'.rdE
  clear hs r0 r1 bW zW hp hC0 hM hC1 b0 z0 r0'
  go_enter Try.func32, Try.ntmps32
  go_upto_region 2 with fail
  refine wp_plain (C := fun w' => w' = W0) rfl ?_
  refine q_put (v := .pointer (some ⟨Z, 0 + 12, none⟩)) (yq rfl (Rn.qt (qfield rfl rfl fp12))) ?_
  try simp only [Act.put, List.setIfInBounds_toArray, List.set_cons_zero, List.set_cons_succ]
  refine q_put (v := .bool (p.bt 12)) (yq rfl (Rn.qt (qload rfl rfl (R.bit rfl)))) ?_
  try simp only [Act.put, List.setIfInBounds_toArray, List.set_cons_zero, List.set_cons_succ]
  refine q_put (v := .bool (p.bt 12)) (yq rfl (Rn.qt (qmove rfl rfl))) ?_
  try simp only [Act.put, List.setIfInBounds_toArray, List.set_cons_zero, List.set_cons_succ]
  refine q_put (v := gd (p.bt 12) true (.pointer (some ⟨Z, 0 + 3, none⟩))) (yq1 rfl rfl (fun e => Rn.qt (qfield rfl rfl fp3))) ?_
  try simp only [Act.put, List.setIfInBounds_toArray, List.set_cons_zero, List.set_cons_succ]
  refine q_put (v := gd (p.bt 12) true (.bool (p.bt 3))) (yq1 rfl rfl (fun e => Rn.qt (qload rfl (on e rfl) (R.bit rfl)))) ?_
  try simp only [Act.put, List.setIfInBounds_toArray, List.set_cons_zero, List.set_cons_succ]
  refine q_put (v := gd (p.bt 12) true (.bool (!(p.bt 3)))) (yq1 rfl rfl (fun e => Rn.qt (qnot rfl (on e rfl)))) ?_
  try simp only [Act.put, List.setIfInBounds_toArray, List.set_cons_zero, List.set_cons_succ]
  refine q_put (v := .bool ((p.bt 12) && (!(p.bt 3)))) (yq rfl (Rn.qt (qpick rfl rfl (pkA rfl rfl)))) ?_
  try simp only [Act.put, List.setIfInBounds_toArray, List.set_cons_zero, List.set_cons_succ]
  refine wpQuiet_nil ?_
  rintro y_ hy_
  rw [hy_]
  clear hy_ y_
  clear l0 c16 lp s0 R
  have hc := EC0.out
  unfold prpB at hc
  rw [hc]
  clear hc
  cases C0
  rotate_left
  · have E : OO = some ((l.set k (prdP p)).map syncP) := by
      rw [← EO.out]
      unfold agrO
      rw [HP.out, if_pos EC0.out]
    obtain ⟨W1, s1, S1⟩ := T0.out.setB kb12 false
    have S1 : TP w W1 w.heap.size (w.heap.size + 1) Z h g o n c l (prdP p) := S1
    have SW : Hid (TP w _ w.heap.size (w.heap.size + 1) Z h g o n c l (prdP p)) := S1
    have lt_ := SW.out.tre.var.tld
    have lp_ := SW.out.pv.pld
    clear S1
    go_wp2_with fail
    refine (with_any h (some ⟨g, o, none⟩) n c l k (prdP p) _ SW.out.sl hn hk).mono ?_
    rintro _ X ⟨g2, c2, rfl, hg2, s2, b2⟩
    have ST : Hid (TS w X w.heap.size (w.heap.size + 1) h (.slice (some ⟨g, o, none⟩) n c) ∧ SlAt X (some ⟨g2, 0, none⟩) n c2 (l.set k (prdP p))) := ⟨SW.out.tre.below b2, s2⟩
    clear s2 b2 hg2 lt_ lp_ SW
    go_wp2_with fail
    refine (rsync_any h (some ⟨g2, 0, none⟩) n c2 (l.set k (prdP p)) X ST.out.2 hn).mono ?_
    rintro _ Y ⟨v, rfl, oy, b3⟩
    obtain ⟨a3, c3, hv, s3, _⟩ := oy.form
    rw [List.length_map, List.length_set, HL.out] at hv s3
    subst hv
    obtain ⟨U, sU, h1, h2, gU⟩ := (ST.out.1.below b3).tell (y := .slice a3 n c3) rfl
    have G : Hid (RvAt U (w.heap.size + 1) 31 (trc h (.slice a3 n c3)) ∧ SlAt U a3 n c3 (OO.getD l) ∧ Below w.heap.size w U ∧ OO.isSome = true) := by
      rw [E]
      exact ⟨h1, s3.keptT (ST.out.1.below b3).out gU, h2, rfl⟩
    clear h1 h2 gU s3 b3 oy ST
    go_wp2
    refine bodyPost_ret (results_rowtmp rtT Try.results32 _ _ _ _ rfl G.out.1 (trc_size _ _)) rfl ?_
    exact ⟨a3, c3, by rw [G.out.2.2.2]; rfl, G.out.2.1, G.out.2.2.1⟩
  have R := T0.out.pv.rdL
  have LT : ∀ w', (∃ x : Later W0, w' = x.val) → (Instr.loadAt 31 (.pointer (some ⟨w.heap.size, 0, none⟩))).run Try.prog w' = .ok (.agg (trc h (.slice (some ⟨g, o, none⟩) n c))) w' := by
    rintro _ ⟨x, rfl⟩
    exact (T0.out.below x.below).tre.var.tld
  have AS : ∀ x : Later W0, Calls Try.prog 14 #[.agg (trc h (.slice (some ⟨g, o, none⟩) n c)), .int .i64 (k : Int)] x.val fun r W' => r = .returned (.bool M) ∧ ∃ y : Later W0, W' = y.val := fun x => by
    have := rallS_any h (some ⟨g, o, none⟩) n c l (k : Int) x.val (T0.out.below x.below).sl hn
    rw [show allK (okS (k : Int)) l = M from EM.out] at this
    exact Calls.later_of this
  go_upto_region 5 with fail
  refine wp_plain (C := fun w' => ∃ x : Later W0, w' = x.val) ⟨⟨_, Below.refl _ _⟩, rfl⟩ ?_
  refine q_put (v := .agg (trc h (.slice (some ⟨g, o, none⟩) n c))) (yq rfl (Rn.qt (qload rfl rfl LT))) ?_
  try simp only [Act.put, List.setIfInBounds_toArray, List.set_cons_zero, List.set_cons_succ]
  refine q_put (v := .int .i64 (k : Int)) (yq rfl (Rn.qt (qmove rfl rfl))) ?_
  try simp only [Act.put, List.setIfInBounds_toArray, List.set_cons_zero, List.set_cons_succ]
  refine q_put (v := .bool M) (yq rfl (qcall2 rfl rfl rfl (fun V => by go_simp) (fun w hw => by obtain ⟨x, rfl⟩ := hw; exact AS x))) ?_
  try simp only [Act.put, List.setIfInBounds_toArray, List.set_cons_zero, List.set_cons_succ]
  refine q_put (v := .bool M) (yq rfl (Rn.qt (qmove rfl rfl))) ?_
  try simp only [Act.put, List.setIfInBounds_toArray, List.set_cons_zero, List.set_cons_succ]
  refine q_put (v := gd M true (.pointer (some ⟨Z, 0 + 3, none⟩))) (yq1 rfl rfl (fun e => Rn.qt (qfield rfl rfl fp3))) ?_
  try simp only [Act.put, List.setIfInBounds_toArray, List.set_cons_zero, List.set_cons_succ]
  refine q_put (v := gd M true (.bool (p.bt 3))) (yq1 rfl rfl (fun e => Rn.qt (qload rfl (on e rfl) (R.bit rfl)))) ?_
  try simp only [Act.put, List.setIfInBounds_toArray, List.set_cons_zero, List.set_cons_succ]
  refine q_put (v := gd M true (.bool (!(p.bt 3)))) (yq1 rfl rfl (fun e => Rn.qt (qnot rfl (on e rfl)))) ?_
  try simp only [Act.put, List.setIfInBounds_toArray, List.set_cons_zero, List.set_cons_succ]
  refine q_put (v := .bool (M && (!(p.bt 3)))) (yq rfl (Rn.qt (qpick rfl rfl (pkA rfl rfl)))) ?_
  try simp only [Act.put, List.setIfInBounds_toArray, List.set_cons_zero, List.set_cons_succ]
  refine q_put (v := .bool (M && (!(p.bt 3)))) (yq rfl (Rn.qt (qmove rfl rfl))) ?_
  try simp only [Act.put, List.setIfInBounds_toArray, List.set_cons_zero, List.set_cons_succ]
  refine q_put (v := gd (M && (!(p.bt 3))) false (.pointer (some ⟨Z, 0 + 12, none⟩))) (yq1 rfl rfl (fun e => Rn.qt (qfield rfl rfl fp12))) ?_
  try simp only [Act.put, List.setIfInBounds_toArray, List.set_cons_zero, List.set_cons_succ]
  refine q_put (v := gd (M && (!(p.bt 3))) false (.bool (p.bt 12))) (yq1 rfl rfl (fun e => Rn.qt (qload rfl (on e rfl) (R.bit rfl)))) ?_
  try simp only [Act.put, List.setIfInBounds_toArray, List.set_cons_zero, List.set_cons_succ]
  refine q_put (v := gd (M && (!(p.bt 3))) false (.bool (p.bt 12))) (yq1 rfl rfl (fun e => Rn.qt (qmove rfl (on e rfl)))) ?_
  try simp only [Act.put, List.setIfInBounds_toArray, List.set_cons_zero, List.set_cons_succ]
  refine q_put (v := gd (M && (!(p.bt 3))) false (gd (p.bt 12) true (.pointer (some ⟨Z, 0 + 3, none⟩)))) (yq2 rfl rfl (fun e1 e2 => Rn.qt (qfield rfl rfl fp3))) ?_
  try simp only [Act.put, List.setIfInBounds_toArray, List.set_cons_zero, List.set_cons_succ]
  refine q_put (v := gd (M && (!(p.bt 3))) false (gd (p.bt 12) true (.bool (p.bt 3)))) (yq2 rfl rfl (fun e1 e2 => Rn.qt (qload rfl (on e2 (on e1 rfl)) (R.bit rfl)))) ?_
  try simp only [Act.put, List.setIfInBounds_toArray, List.set_cons_zero, List.set_cons_succ]
  refine q_put (v := gd (M && (!(p.bt 3))) false (.bool ((p.bt 12) && (p.bt 3)))) (yq1 rfl rfl (fun e => Rn.qt (qpick rfl (on e rfl) (pkA (on e rfl) rfl)))) ?_
  try simp only [Act.put, List.setIfInBounds_toArray, List.set_cons_zero, List.set_cons_succ]
  refine q_put (v := .bool ((M && (!(p.bt 3))) || ((p.bt 12) && (p.bt 3)))) (yq rfl (Rn.qt (qpick rfl rfl (pkO rfl rfl)))) ?_
  try simp only [Act.put, List.setIfInBounds_toArray, List.set_cons_zero, List.set_cons_succ]
  refine wpQuiet_nil ?_
  rintro _ ⟨y, rfl⟩
  obtain ⟨V, hV⟩ : ∃ V, y.val = V := ⟨_, rfl⟩
  have bV : Below W0.heap.size W0 V := by rw [← hV]; exact y.below
  rw [hV]
  have T1 : Hid (TP w V w.heap.size (w.heap.size + 1) Z h g o n c l p) := T0.out.below bV
  clear R LT AS hV bV y
  rw [HC1.out]
  clear HC1
  cases C1
  · have E : OO = none := by
      rw [← EO.out]
      unfold agrO
      rw [HP.out, if_neg (by rw [EC0.out]; decide), if_neg (by rw [EC1.out]; decide)]
    have lt_ := (T1.out).tre.var.tld
    obtain ⟨U, sU, h1, h2, gU⟩ := (T1.out).tre.tell (y := .slice (some ⟨g, o, none⟩) n c) rfl
    have G : Hid (RvAt U (w.heap.size + 1) 31 (trc h (.slice (some ⟨g, o, none⟩) n c)) ∧ SlAt U (some ⟨g, o, none⟩) n c (OO.getD l) ∧ Below w.heap.size w U ∧ OO.isSome = false) := by
      rw [E]
      exact ⟨h1, (T1.out).sl.keptT (T1.out).tre.out gU, h2, rfl⟩
    clear h1 h2 gU E
    go_wp2
    refine bodyPost_ret (results_rowtmp rtT Try.results32 _ _ _ _ rfl G.out.1 (trc_size _ _)) rfl ?_
    exact ⟨some ⟨g, o, none⟩, c, by rw [G.out.2.2.2]; rfl, G.out.2.1, G.out.2.2.1⟩
  obtain ⟨N, hN⟩ : ∃ N, p.nm 73 = N := ⟨_, rfl⟩
  have l73 := T1.out.pv.pnum (j := 73) (k := .i64) rfl
  rw [hN] at l73
  by_cases h3 : N = 3
  · have E : OO = some (l.set k (agrRP p)) := by
      rw [← EO.out]
      unfold agrO
      rw [HP.out, if_neg (by rw [EC0.out]; decide), if_pos EC1.out, hN, if_pos h3]
    subst h3
    have S0 := T1.out
    obtain ⟨W1, s1, S1⟩ := S0.setB kb24 false
    obtain ⟨W2, s2, S2⟩ := S1.setB kb12 false
    obtain ⟨W3, s3, S3⟩ := S2.setB kb3 true
    obtain ⟨W4, s4, S4⟩ := S3.setB kb11 true
    have S4 : TP w W4 w.heap.size (w.heap.size + 1) Z h g o n c l (agrRP p) := S4
    have SW : Hid (TP w _ w.heap.size (w.heap.size + 1) Z h g o n c l (agrRP p)) := S4
    have lt_ := SW.out.tre.var.tld
    have lp_ := SW.out.pv.pld
    clear S0 S1 S2 S3 S4
    go_wp2_with fail
    refine (with_any h (some ⟨g, o, none⟩) n c l k (agrRP p) _ SW.out.sl hn hk).mono ?_
    rintro _ X ⟨g2, c2, rfl, hg2, s2, b2⟩
    obtain ⟨U, sU, h1, h2, gU⟩ := (SW.out.tre.below b2).tell (y := .slice (some ⟨g2, 0, none⟩) n c2) rfl
    have G : Hid (RvAt U (w.heap.size + 1) 31 (trc h (.slice (some ⟨g2, 0, none⟩) n c2)) ∧ SlAt U (some ⟨g2, 0, none⟩) n c2 (OO.getD l) ∧ Below w.heap.size w U ∧ OO.isSome = true) := by
      rw [E]
      exact ⟨h1, s2.keptT (SW.out.tre.below b2).out gU, h2, rfl⟩
    clear h1 h2 gU s2 b2 hg2 lt_ lp_ SW
    go_wp2
    refine bodyPost_ret (results_rowtmp rtT Try.results32 _ _ _ _ rfl G.out.1 (trc_size _ _)) rfl ?_
    exact ⟨some ⟨g2, 0, none⟩, c2, by rw [G.out.2.2.2]; rfl, G.out.2.1, G.out.2.2.1⟩
  · have E : OO = some (l.set k (agrP p)) := by
      rw [← EO.out]
      unfold agrO
      rw [HP.out, if_neg (by rw [EC0.out]; decide), if_pos EC1.out, hN, if_neg h3]
    have x3 : (N == 3) = false := by simpa using h3
    have S0 := T1.out
    obtain ⟨W1, s1, S1⟩ := S0.setB kb12 false
    obtain ⟨W2, s2, S2⟩ := S1.setB kb3 true
    obtain ⟨W3, s3, S3⟩ := S2.setB kb11 true
    have S3 : TP w W3 w.heap.size (w.heap.size + 1) Z h g o n c l (agrP p) := S3
    have SW : Hid (TP w _ w.heap.size (w.heap.size + 1) Z h g o n c l (agrP p)) := S3
    have lt_ := SW.out.tre.var.tld
    have lp_ := SW.out.pv.pld
    clear S0 S1 S2 S3
    go_wp2_with fail
    refine (with_any h (some ⟨g, o, none⟩) n c l k (agrP p) _ SW.out.sl hn hk).mono ?_
    rintro _ X ⟨g2, c2, rfl, hg2, s2, b2⟩
    obtain ⟨U, sU, h1, h2, gU⟩ := (SW.out.tre.below b2).tell (y := .slice (some ⟨g2, 0, none⟩) n c2) rfl
    have G : Hid (RvAt U (w.heap.size + 1) 31 (trc h (.slice (some ⟨g2, 0, none⟩) n c2)) ∧ SlAt U (some ⟨g2, 0, none⟩) n c2 (OO.getD l) ∧ Below w.heap.size w U ∧ OO.isSome = true) := by
      rw [E]
      exact ⟨h1, s2.keptT (SW.out.tre.below b2).out gU, h2, rfl⟩
    clear h1 h2 gU s2 b2 hg2 lt_ lp_ SW
    go_wp2
    refine bodyPost_ret (results_rowtmp rtT Try.results32 _ _ _ _ rfl G.out.1 (trc_size _ _)) rfl ?_
    exact ⟨some ⟨g2, 0, none⟩, c2, by rw [G.out.2.2.2]; rfl, G.out.2.1, G.out.2.2.1⟩
end Go.Proofs.Ytdlleecfmebenaa
