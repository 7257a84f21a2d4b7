/-
  The definition's root port and its port that stands by: the walks of root and alternate.
-/
import Derived.Test.YtdlleecfmebenaaRfG
import Derived.Test.YtdlleecfmebenaaConf
namespace Go.Proofs.Ytdlleecfmebenaa
set_option linter.unusedVariables false
set_option maxRecDepth 4000
set_option linter.unusedSimpArgs false
open Go.RowKit

/-- What becomes of the ports where one is root and nothing is to be answered, if anything. -/
def rotO (l : List Pt) (k : Nat) : Option (List Pt) :=
  if (!(gtP l k).bt 7 && !(gtP l k).bt 20) = true then some (l.map rerP) else if ((gtP l k).bt 20 && (gtP l k).bt 7) = true then some (l.set k (rrdP (gtP l k))) else if (rdyB l k && !(gtP l k).bt 9) = true then some (l.set k (lrnP (gtP l k))) else if ((rdyB l k && (gtP l k).bt 9) && !(gtP l k).bt 7) = true then some (l.set k (fwdP (gtP l k))) else if ((gtP l k).nm 70 != (gtP l k).nm 43) = true then some (l.set k (rcnP (gtP l k))) else none
/-- The first of two. -/
def orO (a b : Option (List Pt)) : Option (List Pt) := match a with | some m => some m | none => b
attribute [local go_sem ↓] ldP stP stB stU stW ldT stT
attribute [local go_sem ↓] alP
attribute [local go_sem] alP_run
set_option maxHeartbeats 16000000 in
theorem rroot_any (h : Hd) (g o n c : Nat) (l : List Pt) (k : Nat) (w : World) (hs : SlAt w (some ⟨g, o, none⟩) n c l) (hn : n ≤ 1000) (hk : k < n) :
    Calls Try.prog 22 #[.agg (trc h (.slice (some ⟨g, o, none⟩) n c)), .int .i64 (k : Int)] w fun r w' => ∃ a' c', r = .returned (.tuple #[.agg (trc h (.slice a' n c')), .bool (orO (agrO l k) (rotO l k)).isSome]) ∧ SlAt w' a' n c' ((orO (agrO l k) (rotO l k)).getD l) ∧ Below w.heap.size w w' := by
  obtain ⟨OO, hOO⟩ : ∃ z, orO (agrO l k) (rotO l k) = z := ⟨_, rfl⟩
  rw [hOO]
  have EO : Hid (orO (agrO l k) (rotO l k) = OO) := hOO
  clear hOO
  have HL : Hid (l.length = n) := hs.len
  have hkl : k < l.length := by rw [HL.out]; exact hk
  have hin0 : (0 : Int) ≤ (k : Int) := by omega
  have hin1 : (k : Int) < (n : Int) := by omega
  obtain ⟨W, hW, r0, r1, bW, zW⟩ := two_t w h (.slice (some ⟨g, o, none⟩) n c)
  have l0 := r0.tld
  have c16 := r0.t16
  have H : Hid (TS w W w.heap.size (w.heap.size + 1) h (.slice (some ⟨g, o, none⟩) n c) ∧ SlAt W (some ⟨g, o, none⟩) n c l ∧ W.heap.size = w.heap.size + 2) := ⟨⟨r0, r1, bW, by omega⟩, hs.below bW, zW⟩
  have GL : Hid (g < w.heap.size) := hs.low (by omega)
  have HS : Hid (SlAt w (some ⟨g, o, none⟩) n c l) := hs
  obtain ⟨p, hp⟩ : ∃ p, gtP l k = p := ⟨_, rfl⟩
  have HP : Hid (gtP l k = p) := hp
  obtain ⟨AO, hAO⟩ : ∃ z, agrO l k = z := ⟨_, rfl⟩
  have EA : Hid (agrO l k = AO) := hAO
  clear hs r0 r1 bW zW hp hAO c16
  go_enter Try.func22, Try.ntmps22
  go_wp2_with fail
  refine (ragr_any h g o n c l k W H.out.2.1 hn hk).mono ?_
  rw [EA.out]
  rintro _ X ⟨a1, c1, rfl, s1, b1⟩
  obtain ⟨V1, t1, rV1, bV1, zV1⟩ := new_tv X h (.slice a1 n c1) rfl
  have T0 : Hid (TS w V1 w.heap.size (w.heap.size + 1) h (.slice (some ⟨g, o, none⟩) n c) ∧ SlAt V1 (some ⟨g, o, none⟩) n c l ∧ SlAt V1 a1 n c1 (AO.getD l) ∧ RvAt V1 X.heap.size 31 (trc h (.slice a1 n c1)) ∧ w.heap.size ≤ V1.heap.size) := ⟨(H.out.1.below b1).below bV1, (H.out.2.1.below b1).below bV1, s1.below bV1, rV1, by have := H.out.2.2; have := b1.size; have := bV1.size; omega⟩
  clear s1 b1 rV1 bV1 zV1 l0
  cases AO with
  | some m =>
    have E : OO = some m := by rw [← EO.out, EA.out]; rfl
    have lu := T0.out.2.2.2.1.tld
    obtain ⟨U, sU, h1, h2, gU⟩ := T0.out.1.tell (y := .slice a1 n c1) rfl
    have G : Hid (RvAt U (w.heap.size + 1) 31 (trc h (.slice a1 n c1)) ∧ SlAt U a1 n c1 (OO.getD l) ∧ Below w.heap.size w U ∧ OO.isSome = true) := by
      rw [E]
      exact ⟨h1, T0.out.2.2.1.keptT T0.out.1.out gU, h2, rfl⟩
    clear h1 h2 gU E
    simp only [Option.isSome_some]
    go_wp2
    refine bodyPost_ret (results_rowtmp rtT Try.results22 _ _ _ _ rfl G.out.1 (trc_size _ _)) rfl ?_
    exact ⟨a1, c1, by rw [G.out.2.2.2]; rfl, G.out.2.1, G.out.2.2.1⟩
  | none =>
    have c16 := T0.out.1.var.t16
    have lp := T0.out.2.1.ld (gtP_at hkl)
    rw [HP.out] at lp
    obtain ⟨W0, s0, r0, b0, z0⟩ := var_p V1 p
    obtain ⟨Z, hZ⟩ : ∃ Z, V1.heap.size = Z := ⟨_, rfl⟩
    rw [hZ] at s0 r0
    have P0 : Hid (TP w W0 w.heap.size (w.heap.size + 1) Z h g o n c l p) := ⟨T0.out.1.below b0, T0.out.2.1.below b0, r0, by have := T0.out.2.2.2.2; omega, GL.out⟩
    clear r0 b0 z0
    simp only [Option.isSome_none]
    obtain ⟨RA, hRA⟩ : ∃ z, wasR l k = z := ⟨_, rfl⟩
    have ERA : Hid (wasR l k = RA) := hRA
    clear hRA
    have R := P0.out.pv.rdL
    have LT : ∀ w', (∃ x : Later W0, w' = x.val) → (Instr.loadAt 31 (.pointer (some ⟨w.heap.size, 0, none⟩))).run Try.prog w' = .ok (.agg (trc h (.slice (some ⟨g, o, none⟩) n c))) w' := by
      rintro _ ⟨x, rfl⟩
      exact (P0.out.below x.below).tre.var.tld
    have AS : ∀ x : Later W0, Calls Try.prog 33 #[.agg (trc h (.slice (some ⟨g, o, none⟩) n c)), .int .i64 (k : Int)] x.val fun r W' => r = .returned (.bool RA) ∧ ∃ y : Later W0, W' = y.val := fun x => by
      have := rallR_any h (some ⟨g, o, none⟩) n c l (k : Int) x.val (P0.out.below x.below).sl hn
      rw [show allK (okR (k : Int)) l = RA from ERA.out] at this
      exact Calls.later_of this
    go_upto_region 5 with fail
    clear t1 c16 lp s0 hZ
    refine wp_plain (C := fun w' => ∃ x : Later W0, w' = x.val) ⟨⟨_, Below.refl _ _⟩, rfl⟩ ?_
    refine q_put (v := .pointer (some ⟨Z, 0 + 65, none⟩)) (yq rfl (Rn.qt (qfield rfl rfl fp38))) ?_
    try simp only [Act.put, List.setIfInBounds_toArray, List.set_cons_zero, List.set_cons_succ]
    refine q_put (v := .int .u8 (p.nm 65)) (yq rfl (Rn.qt (qload rfl rfl (R.u8 rfl)))) ?_
    try simp only [Act.put, List.setIfInBounds_toArray, List.set_cons_zero, List.set_cons_succ]
    refine q_put (v := .bool ((p.nm 65) == 0)) (yq rfl (Rn.qt (qbin rfl rfl rfl (eg_u8 _ _ _ _ _) (eq_u8 _ _)))) ?_
    try simp only [Act.put, List.setIfInBounds_toArray, List.set_cons_zero, List.set_cons_succ]
    refine q_put (v := .bool ((p.nm 65) == 0)) (yq rfl (Rn.qt (qmove rfl rfl))) ?_
    try simp only [Act.put, List.setIfInBounds_toArray, List.set_cons_zero, List.set_cons_succ]
    refine q_put (v := gd ((p.nm 65) == 0) false (.agg (trc h (.slice (some ⟨g, o, none⟩) n c)))) (yq1 rfl rfl (fun e => Rn.qt (qload rfl rfl LT))) ?_
    try simp only [Act.put, List.setIfInBounds_toArray, List.set_cons_zero, List.set_cons_succ]
    refine q_put (v := gd ((p.nm 65) == 0) false (.int .i64 (k : Int))) (yq1 rfl rfl (fun e => Rn.qt (qmove rfl rfl))) ?_
    try simp only [Act.put, List.setIfInBounds_toArray, List.set_cons_zero, List.set_cons_succ]
    refine q_put (v := gd ((p.nm 65) == 0) false (.bool RA)) (yq1 rfl rfl (fun e => qcall2 rfl (on e rfl) (on e rfl) (fun V => by go_simp) (fun w hw => by obtain ⟨x, rfl⟩ := hw; exact AS x))) ?_
    try simp only [Act.put, List.setIfInBounds_toArray, List.set_cons_zero, List.set_cons_succ]
    refine q_put (v := gd ((p.nm 65) == 0) false (.bool RA)) (yq1 rfl rfl (fun e => Rn.qt (qmove rfl (on e rfl)))) ?_
    try simp only [Act.put, List.setIfInBounds_toArray, List.set_cons_zero, List.set_cons_succ]
    refine q_put (v := gd ((p.nm 65) == 0) false (gd RA true (.pointer (some ⟨Z, 0 + 68, none⟩)))) (yq2 rfl rfl (fun e1 e2 => Rn.qt (qfield rfl rfl fp41))) ?_
    try simp only [Act.put, List.setIfInBounds_toArray, List.set_cons_zero, List.set_cons_succ]
    refine q_put (v := gd ((p.nm 65) == 0) false (gd RA true (.int .u8 (p.nm 68)))) (yq2 rfl rfl (fun e1 e2 => Rn.qt (qload rfl (on e2 (on e1 rfl)) (R.u8 rfl)))) ?_
    try simp only [Act.put, List.setIfInBounds_toArray, List.set_cons_zero, List.set_cons_succ]
    refine q_put (v := gd ((p.nm 65) == 0) false (gd RA true (.bool ((p.nm 68) == 0)))) (yq2 rfl rfl (fun e1 e2 => Rn.qt (qbin rfl (on e2 (on e1 rfl)) rfl (eg_u8 _ _ _ _ _) (eq_u8 _ _)))) ?_
    try simp only [Act.put, List.setIfInBounds_toArray, List.set_cons_zero, List.set_cons_succ]
    refine q_put (v := gd ((p.nm 65) == 0) false (.bool (RA && ((p.nm 68) == 0)))) (yq1 rfl rfl (fun e => Rn.qt (qpick rfl (on e rfl) (pkA (on e rfl) rfl)))) ?_
    try simp only [Act.put, List.setIfInBounds_toArray, List.set_cons_zero, List.set_cons_succ]
    refine q_put (v := .bool (((p.nm 65) == 0) || (RA && ((p.nm 68) == 0)))) (yq rfl (Rn.qt (qpick rfl rfl (pkO rfl rfl)))) ?_
    try simp only [Act.put, List.setIfInBounds_toArray, List.set_cons_zero, List.set_cons_succ]
    refine q_put (v := .bool (((p.nm 65) == 0) || (RA && ((p.nm 68) == 0)))) (yq rfl (Rn.qt (qassign rfl rfl))) ?_
    try simp only [Act.put, List.setIfInBounds_toArray, List.set_cons_zero, List.set_cons_succ]
    refine wpQuiet_nil ?_
    rintro _ ⟨y, rfl⟩
    obtain ⟨V, hV⟩ : ∃ V, y.val = V := ⟨_, rfl⟩
    have bV : Below W0.heap.size W0 V := by rw [← hV]; exact y.below
    rw [hV]
    have T1 : Hid (TP w V w.heap.size (w.heap.size + 1) Z h g o n c l p) := P0.out.below bV
    clear R LT AS hV bV y P0
    have R := T1.out.pv.rdE
    obtain ⟨RY, hRY⟩ : ∃ z, ((p.nm 65 == 0) || (RA && (p.nm 68 == 0))) = z := ⟨_, rfl⟩
    rw [hRY]
    have ERY : Hid (rdyB l k = RY) := by rw [← hRY, ← ERA.out, ← HP.out]; rfl
    clear hRY
    obtain ⟨C0, hC0⟩ : ∃ z, (!p.bt 7 && !p.bt 20) = z := ⟨_, rfl⟩
    have EC0 : Hid ((!p.bt 7 && !p.bt 20) = C0) := hC0
    clear hC0
    obtain ⟨C1, hC1⟩ : ∃ z, (p.bt 20 && p.bt 7) = z := ⟨_, rfl⟩
    have EC1 : Hid ((p.bt 20 && p.bt 7) = C1) := hC1
    clear hC1
    obtain ⟨C2, hC2⟩ : ∃ z, (RY && !p.bt 9) = z := ⟨_, rfl⟩
    have EC2 : Hid ((RY && !p.bt 9) = C2) := hC2
    clear hC2
    obtain ⟨C3, hC3⟩ : ∃ z, ((RY && p.bt 9) && !p.bt 7) = z := ⟨_, rfl⟩
    have EC3 : Hid (((RY && p.bt 9) && !p.bt 7) = C3) := hC3
    clear hC3
    obtain ⟨C4, hC4⟩ : ∃ z, (p.nm 70 != p.nm 43) = z := ⟨_, rfl⟩
    have EC4 : Hid ((p.nm 70 != p.nm 43) = C4) := hC4
    clear hC4
    go_upto_region 7 with fail
    refine wp_plain (C := fun w' => w' = V) rfl ?_
    refine q_put (v := .pointer (some ⟨Z, 0 + 7, none⟩)) (yq rfl (Rn.qt (qfield rfl rfl fp7))) ?_
    try simp only [Act.put, List.setIfInBounds_toArray, List.set_cons_zero, List.set_cons_succ]
    refine q_put (v := .bool (p.bt 7)) (yq rfl (Rn.qt (qload rfl rfl (R.bit rfl)))) ?_
    try simp only [Act.put, List.setIfInBounds_toArray, List.set_cons_zero, List.set_cons_succ]
    refine q_put (v := .bool (!(p.bt 7))) (yq rfl (Rn.qt (qnot rfl rfl))) ?_
    try simp only [Act.put, List.setIfInBounds_toArray, List.set_cons_zero, List.set_cons_succ]
    refine q_put (v := .bool (!(p.bt 7))) (yq rfl (Rn.qt (qmove rfl rfl))) ?_
    try simp only [Act.put, List.setIfInBounds_toArray, List.set_cons_zero, List.set_cons_succ]
    refine q_put (v := gd (!(p.bt 7)) true (.pointer (some ⟨Z, 0 + 20, none⟩))) (yq1 rfl rfl (fun e => Rn.qt (qfield rfl rfl fp20))) ?_
    try simp only [Act.put, List.setIfInBounds_toArray, List.set_cons_zero, List.set_cons_succ]
    refine q_put (v := gd (!(p.bt 7)) true (.bool (p.bt 20))) (yq1 rfl rfl (fun e => Rn.qt (qload rfl (on e rfl) (R.bit rfl)))) ?_
    try simp only [Act.put, List.setIfInBounds_toArray, List.set_cons_zero, List.set_cons_succ]
    refine q_put (v := gd (!(p.bt 7)) true (.bool (!(p.bt 20)))) (yq1 rfl rfl (fun e => Rn.qt (qnot rfl (on e rfl)))) ?_
    try simp only [Act.put, List.setIfInBounds_toArray, List.set_cons_zero, List.set_cons_succ]
    refine q_put (v := .bool ((!(p.bt 7)) && (!(p.bt 20)))) (yq rfl (Rn.qt (qpick rfl rfl (pkA rfl rfl)))) ?_
    try simp only [Act.put, List.setIfInBounds_toArray, List.set_cons_zero, List.set_cons_succ]
    refine q_put (v := .bool ((!(p.bt 7)) && (!(p.bt 20)))) (yq rfl (Rn.qt (qassign rfl rfl))) ?_
    try simp only [Act.put, List.setIfInBounds_toArray, List.set_cons_zero, List.set_cons_succ]
    refine wpQuiet_nil ?_
    rintro y_ hy_
    rw [hy_]
    clear hy_ y_
    rw [EC0.out]
    cases C0
    rotate_left
    · have E : OO = some (l.map rerP) := by
        rw [← EO.out, EA.out]
        unfold orO rotO
        simp only
        rw [HP.out, ERY.out, if_pos EC0.out]
      have lt_ := T1.out.tre.var.tld
      clear R
      go_wp2_with fail
      refine (rrer_any h (some ⟨g, o, none⟩) n c l V T1.out.sl hn).mono ?_
      rintro _ Y ⟨v, rfl, oy, b3⟩
      obtain ⟨a3, c3, hv, s3, _⟩ := oy.form
      rw [List.length_map, HL.out] at hv s3
      subst hv
      obtain ⟨U, sU, h1, h2, gU⟩ := (T1.out.tre.below b3).tell (y := .slice a3 n c3) rfl
      have G : Hid (RvAt U (w.heap.size + 1) 31 (trc h (.slice a3 n c3)) ∧ SlAt U a3 n c3 (OO.getD l) ∧ Below w.heap.size w U ∧ OO.isSome = true) := by
        rw [E]
        exact ⟨h1, s3.keptT (T1.out.tre.below b3).out gU, h2, rfl⟩
      clear h1 h2 gU s3 b3 oy lt_
      go_wp2
      refine bodyPost_ret (results_rowtmp rtT Try.results22 _ _ _ _ rfl G.out.1 (trc_size _ _)) rfl ?_
      exact ⟨a3, c3, by rw [G.out.2.2.2]; rfl, G.out.2.1, G.out.2.2.1⟩
    go_upto_region 9 with fail
    refine wp_plain (C := fun w' => w' = V) rfl ?_
    refine q_put (v := .pointer (some ⟨Z, 0 + 20, none⟩)) (yq rfl (Rn.qt (qfield rfl rfl fp20))) ?_
    try simp only [Act.put, List.setIfInBounds_toArray, List.set_cons_zero, List.set_cons_succ]
    refine q_put (v := .bool (p.bt 20)) (yq rfl (Rn.qt (qload rfl rfl (R.bit rfl)))) ?_
    try simp only [Act.put, List.setIfInBounds_toArray, List.set_cons_zero, List.set_cons_succ]
    refine q_put (v := .bool (p.bt 20)) (yq rfl (Rn.qt (qmove rfl rfl))) ?_
    try simp only [Act.put, List.setIfInBounds_toArray, List.set_cons_zero, List.set_cons_succ]
    refine q_put (v := gd (p.bt 20) true (.pointer (some ⟨Z, 0 + 7, none⟩))) (yq1 rfl rfl (fun e => Rn.qt (qfield rfl rfl fp7))) ?_
    try simp only [Act.put, List.setIfInBounds_toArray, List.set_cons_zero, List.set_cons_succ]
    refine q_put (v := gd (p.bt 20) true (.bool (p.bt 7))) (yq1 rfl rfl (fun e => Rn.qt (qload rfl (on e rfl) (R.bit rfl)))) ?_
    try simp only [Act.put, List.setIfInBounds_toArray, List.set_cons_zero, List.set_cons_succ]
    refine q_put (v := .bool ((p.bt 20) && (p.bt 7))) (yq rfl (Rn.qt (qpick rfl rfl (pkA rfl rfl)))) ?_
    try simp only [Act.put, List.setIfInBounds_toArray, List.set_cons_zero, List.set_cons_succ]
    refine q_put (v := .bool ((p.bt 20) && (p.bt 7))) (yq rfl (Rn.qt (qassign rfl rfl))) ?_
    try simp only [Act.put, List.setIfInBounds_toArray, List.set_cons_zero, List.set_cons_succ]
    refine wpQuiet_nil ?_
    rintro y_ hy_
    rw [hy_]
    clear hy_ y_
    rw [EC1.out]
    cases C1
    rotate_left
    · have E : OO = some (l.set k (rrdP p)) := by
        rw [← EO.out, EA.out]
        unfold orO rotO
        simp only
        rw [HP.out, ERY.out, if_neg (by rw [EC0.out]; decide), if_pos EC1.out]
      have S0 := T1.out
      clear R
      obtain ⟨W1, s1, S1⟩ := S0.setB kb20 false
      have S1 : TP w W1 w.heap.size (w.heap.size + 1) Z h g o n c l (rrdP p) := S1
      have SW : Hid (TP w _ w.heap.size (w.heap.size + 1) Z h g o n c l (rrdP p)) := S1
      have lt_ := SW.out.tre.var.tld
      have lp_ := SW.out.pv.pld
      clear S0 S1
      go_wp2_with fail
      refine (with_any h (some ⟨g, o, none⟩) n c l k (rrdP p) _ SW.out.sl hn hk).mono ?_
      rintro _ X ⟨g2, c2, rfl, hg2, s2, b2⟩
      obtain ⟨U, sU, h1, h2, gU⟩ := (SW.out.tre.below b2).tell (y := .slice (some ⟨g2, 0, none⟩) n c2) rfl
      have G : Hid (RvAt U (w.heap.size + 1) 31 (trc h (.slice (some ⟨g2, 0, none⟩) n c2)) ∧ SlAt U (some ⟨g2, 0, none⟩) n c2 (OO.getD l) ∧ Below w.heap.size w U ∧ OO.isSome = true) := by
        rw [E]
        exact ⟨h1, s2.keptT (SW.out.tre.below b2).out gU, h2, rfl⟩
      clear h1 h2 gU s2 b2 hg2 lt_ lp_ SW
      go_wp2
      refine bodyPost_ret (results_rowtmp rtT Try.results22 _ _ _ _ rfl G.out.1 (trc_size _ _)) rfl ?_
      exact ⟨some ⟨g2, 0, none⟩, c2, by rw [G.out.2.2.2]; rfl, G.out.2.1, G.out.2.2.1⟩
    go_upto_region 11 with fail
    refine wp_plain (C := fun w' => w' = V) rfl ?_
    refine q_put (v := .bool RY) (yq rfl (Rn.qt (qmove rfl rfl))) ?_
    try simp only [Act.put, List.setIfInBounds_toArray, List.set_cons_zero, List.set_cons_succ]
    refine q_put (v := .bool RY) (yq rfl (Rn.qt (qmove rfl rfl))) ?_
    try simp only [Act.put, List.setIfInBounds_toArray, List.set_cons_zero, List.set_cons_succ]
    refine q_put (v := gd RY true (.pointer (some ⟨Z, 0 + 9, none⟩))) (yq1 rfl rfl (fun e => Rn.qt (qfield rfl rfl fp9))) ?_
    try simp only [Act.put, List.setIfInBounds_toArray, List.set_cons_zero, List.set_cons_succ]
    refine q_put (v := gd RY true (.bool (p.bt 9))) (yq1 rfl rfl (fun e => Rn.qt (qload rfl (on e rfl) (R.bit rfl)))) ?_
    try simp only [Act.put, List.setIfInBounds_toArray, List.set_cons_zero, List.set_cons_succ]
    refine q_put (v := gd RY true (.bool (!(p.bt 9)))) (yq1 rfl rfl (fun e => Rn.qt (qnot rfl (on e rfl)))) ?_
    try simp only [Act.put, List.setIfInBounds_toArray, List.set_cons_zero, List.set_cons_succ]
    refine q_put (v := .bool (RY && (!(p.bt 9)))) (yq rfl (Rn.qt (qpick rfl rfl (pkA rfl rfl)))) ?_
    try simp only [Act.put, List.setIfInBounds_toArray, List.set_cons_zero, List.set_cons_succ]
    refine q_put (v := .bool (RY && (!(p.bt 9)))) (yq rfl (Rn.qt (qassign rfl rfl))) ?_
    try simp only [Act.put, List.setIfInBounds_toArray, List.set_cons_zero, List.set_cons_succ]
    refine wpQuiet_nil ?_
    rintro y_ hy_
    rw [hy_]
    clear hy_ y_
    rw [EC2.out]
    cases C2
    rotate_left
    · have E : OO = some (l.set k (lrnP p)) := by
        rw [← EO.out, EA.out]
        unfold orO rotO
        simp only
        rw [HP.out, ERY.out, if_neg (by rw [EC0.out]; decide), if_neg (by rw [EC1.out]; decide), if_pos EC2.out]
      have lp2 := T1.out.pv.pld
      clear R
      go_wp2_with fail
      refine (rdelay_any p _).mono ?_
      rintro _ X2 ⟨rfl, bx⟩
      have S0 := T1.out.below bx
      clear bx lp2
      obtain ⟨W1, s1, S1⟩ := S0.setB kb9 true
      obtain ⟨W2, s2, S2⟩ := S1.setU ku65 (x := delayP p) (delay_in p)
      have S2 : TP w W2 w.heap.size (w.heap.size + 1) Z h g o n c l (lrnP p) := S2
      have SW : Hid (TP w _ w.heap.size (w.heap.size + 1) Z h g o n c l (lrnP p)) := S2
      have lt_ := SW.out.tre.var.tld
      have lp_ := SW.out.pv.pld
      clear S0 S1 S2
      go_wp2_with fail
      refine (with_any h (some ⟨g, o, none⟩) n c l k (lrnP p) _ SW.out.sl hn hk).mono ?_
      rintro _ X ⟨g2, c2, rfl, hg2, s2, b2⟩
      obtain ⟨U, sU, h1, h2, gU⟩ := (SW.out.tre.below b2).tell (y := .slice (some ⟨g2, 0, none⟩) n c2) rfl
      have G : Hid (RvAt U (w.heap.size + 1) 31 (trc h (.slice (some ⟨g2, 0, none⟩) n c2)) ∧ SlAt U (some ⟨g2, 0, none⟩) n c2 (OO.getD l) ∧ Below w.heap.size w U ∧ OO.isSome = true) := by
        rw [E]
        exact ⟨h1, s2.keptT (SW.out.tre.below b2).out gU, h2, rfl⟩
      clear h1 h2 gU s2 b2 hg2 lt_ lp_ SW
      go_wp2
      refine bodyPost_ret (results_rowtmp rtT Try.results22 _ _ _ _ rfl G.out.1 (trc_size _ _)) rfl ?_
      exact ⟨some ⟨g2, 0, none⟩, c2, by rw [G.out.2.2.2]; rfl, G.out.2.1, G.out.2.2.1⟩
    go_upto_region 13 with fail
    refine wp_plain (C := fun w' => w' = V) rfl ?_
    refine q_put (v := .bool RY) (yq rfl (Rn.qt (qmove rfl rfl))) ?_
    try simp only [Act.put, List.setIfInBounds_toArray, List.set_cons_zero, List.set_cons_succ]
    refine q_put (v := .bool RY) (yq rfl (Rn.qt (qmove rfl rfl))) ?_
    try simp only [Act.put, List.setIfInBounds_toArray, List.set_cons_zero, List.set_cons_succ]
    refine q_put (v := gd RY true (.pointer (some ⟨Z, 0 + 9, none⟩))) (yq1 rfl rfl (fun e => Rn.qt (qfield rfl rfl fp9))) ?_
    try simp only [Act.put, List.setIfInBounds_toArray, List.set_cons_zero, List.set_cons_succ]
    refine q_put (v := gd RY true (.bool (p.bt 9))) (yq1 rfl rfl (fun e => Rn.qt (qload rfl (on e rfl) (R.bit rfl)))) ?_
    try simp only [Act.put, List.setIfInBounds_toArray, List.set_cons_zero, List.set_cons_succ]
    refine q_put (v := .bool (RY && (p.bt 9))) (yq rfl (Rn.qt (qpick rfl rfl (pkA rfl rfl)))) ?_
    try simp only [Act.put, List.setIfInBounds_toArray, List.set_cons_zero, List.set_cons_succ]
    refine q_put (v := .bool (RY && (p.bt 9))) (yq rfl (Rn.qt (qmove rfl rfl))) ?_
    try simp only [Act.put, List.setIfInBounds_toArray, List.set_cons_zero, List.set_cons_succ]
    refine q_put (v := gd (RY && (p.bt 9)) true (.pointer (some ⟨Z, 0 + 7, none⟩))) (yq1 rfl rfl (fun e => Rn.qt (qfield rfl rfl fp7))) ?_
    try simp only [Act.put, List.setIfInBounds_toArray, List.set_cons_zero, List.set_cons_succ]
    refine q_put (v := gd (RY && (p.bt 9)) true (.bool (p.bt 7))) (yq1 rfl rfl (fun e => Rn.qt (qload rfl (on e rfl) (R.bit rfl)))) ?_
    try simp only [Act.put, List.setIfInBounds_toArray, List.set_cons_zero, List.set_cons_succ]
    refine q_put (v := gd (RY && (p.bt 9)) true (.bool (!(p.bt 7)))) (yq1 rfl rfl (fun e => Rn.qt (qnot rfl (on e rfl)))) ?_
    try simp only [Act.put, List.setIfInBounds_toArray, List.set_cons_zero, List.set_cons_succ]
    refine q_put (v := .bool ((RY && (p.bt 9)) && (!(p.bt 7)))) (yq rfl (Rn.qt (qpick rfl rfl (pkA rfl rfl)))) ?_
    try simp only [Act.put, List.setIfInBounds_toArray, List.set_cons_zero, List.set_cons_succ]
    refine q_put (v := .bool ((RY && (p.bt 9)) && (!(p.bt 7)))) (yq rfl (Rn.qt (qassign rfl rfl))) ?_
    try simp only [Act.put, List.setIfInBounds_toArray, List.set_cons_zero, List.set_cons_succ]
    refine wpQuiet_nil ?_
    rintro y_ hy_
    rw [hy_]
    clear hy_ y_
    rw [EC3.out]
    cases C3
    rotate_left
    · have E : OO = some (l.set k (fwdP p)) := by
        rw [← EO.out, EA.out]
        unfold orO rotO
        simp only
        rw [HP.out, ERY.out, if_neg (by rw [EC0.out]; decide), if_neg (by rw [EC1.out]; decide), if_neg (by rw [EC2.out]; decide), if_pos EC3.out]
      have S0 := T1.out
      clear R
      obtain ⟨W1, s1, S1⟩ := S0.setB kb7 true
      obtain ⟨W2, s2, S2⟩ := S1.setU ku65 (x := 0) (by omega)
      have S2 : TP w W2 w.heap.size (w.heap.size + 1) Z h g o n c l (fwdP p) := S2
      have SW : Hid (TP w _ w.heap.size (w.heap.size + 1) Z h g o n c l (fwdP p)) := S2
      have lt_ := SW.out.tre.var.tld
      have lp_ := SW.out.pv.pld
      clear S0 S1 S2
      go_wp2_with fail
      refine (with_any h (some ⟨g, o, none⟩) n c l k (fwdP p) _ SW.out.sl hn hk).mono ?_
      rintro _ X ⟨g2, c2, rfl, hg2, s2, b2⟩
      obtain ⟨U, sU, h1, h2, gU⟩ := (SW.out.tre.below b2).tell (y := .slice (some ⟨g2, 0, none⟩) n c2) rfl
      have G : Hid (RvAt U (w.heap.size + 1) 31 (trc h (.slice (some ⟨g2, 0, none⟩) n c2)) ∧ SlAt U (some ⟨g2, 0, none⟩) n c2 (OO.getD l) ∧ Below w.heap.size w U ∧ OO.isSome = true) := by
        rw [E]
        exact ⟨h1, s2.keptT (SW.out.tre.below b2).out gU, h2, rfl⟩
      clear h1 h2 gU s2 b2 hg2 lt_ lp_ SW
      go_wp2
      refine bodyPost_ret (results_rowtmp rtT Try.results22 _ _ _ _ rfl G.out.1 (trc_size _ _)) rfl ?_
      exact ⟨some ⟨g2, 0, none⟩, c2, by rw [G.out.2.2.2]; rfl, G.out.2.1, G.out.2.2.1⟩
    go_upto_region 15 with fail
    refine wp_plain (C := fun w' => w' = V) rfl ?_
    refine q_put (v := .pointer (some ⟨Z, 0 + 70, none⟩)) (yq rfl (Rn.qt (qfield rfl rfl fp43))) ?_
    try simp only [Act.put, List.setIfInBounds_toArray, List.set_cons_zero, List.set_cons_succ]
    refine q_put (v := .int .u8 (p.nm 70)) (yq rfl (Rn.qt (qload rfl rfl (R.u8 rfl)))) ?_
    try simp only [Act.put, List.setIfInBounds_toArray, List.set_cons_zero, List.set_cons_succ]
    refine q_put (v := .pointer (some ⟨Z, 0 + 40, none⟩)) (yq rfl (Rn.qt (qfield rfl rfl fp34))) ?_
    try simp only [Act.put, List.setIfInBounds_toArray, List.set_cons_zero, List.set_cons_succ]
    refine q_put (v := .pointer (some ⟨Z, 0 + 40 + 3, none⟩)) (yq rfl (Rn.qt (qfield rfl rfl ft3))) ?_
    try simp only [Act.put, List.setIfInBounds_toArray, List.set_cons_zero, List.set_cons_succ]
    refine q_put (v := .int .u8 (p.nm 43)) (yq rfl (Rn.qt (qload rfl rfl (R.dt rfl rfl)))) ?_
    try simp only [Act.put, List.setIfInBounds_toArray, List.set_cons_zero, List.set_cons_succ]
    refine q_put (v := .bool ((p.nm 70) != (p.nm 43))) (yq rfl (Rn.qt (qbin rfl rfl rfl (eg_u8 _ _ _ _ _) (ne_u8 _ _)))) ?_
    try simp only [Act.put, List.setIfInBounds_toArray, List.set_cons_zero, List.set_cons_succ]
    refine q_put (v := .bool ((p.nm 70) != (p.nm 43))) (yq rfl (Rn.qt (qassign rfl rfl))) ?_
    try simp only [Act.put, List.setIfInBounds_toArray, List.set_cons_zero, List.set_cons_succ]
    refine wpQuiet_nil ?_
    rintro y_ hy_
    rw [hy_]
    clear hy_ y_
    rw [EC4.out]
    cases C4
    rotate_left
    · have E : OO = some (l.set k (rcnP p)) := by
        rw [← EO.out, EA.out]
        unfold orO rotO
        simp only
        rw [HP.out, ERY.out, if_neg (by rw [EC0.out]; decide), if_neg (by rw [EC1.out]; decide), if_neg (by rw [EC2.out]; decide), if_neg (by rw [EC3.out]; decide), if_pos EC4.out]
      have S0 := T1.out
      clear R
      have l43 := S0.pv.pnum (j := 43) (k := .u8) rfl
      obtain ⟨W1, s1, S1⟩ := S0.setU ku70 (x := p.nm 43) (p.u8 rfl)
      have S1 : TP w W1 w.heap.size (w.heap.size + 1) Z h g o n c l (rcnP p) := S1
      have SW : Hid (TP w _ w.heap.size (w.heap.size + 1) Z h g o n c l (rcnP p)) := S1
      have lt_ := SW.out.tre.var.tld
      have lp_ := SW.out.pv.pld
      clear S0 S1
      go_wp2_with fail
      refine (with_any h (some ⟨g, o, none⟩) n c l k (rcnP p) _ SW.out.sl hn hk).mono ?_
      rintro _ X ⟨g2, c2, rfl, hg2, s2, b2⟩
      obtain ⟨U, sU, h1, h2, gU⟩ := (SW.out.tre.below b2).tell (y := .slice (some ⟨g2, 0, none⟩) n c2) rfl
      have G : Hid (RvAt U (w.heap.size + 1) 31 (trc h (.slice (some ⟨g2, 0, none⟩) n c2)) ∧ SlAt U (some ⟨g2, 0, none⟩) n c2 (OO.getD l) ∧ Below w.heap.size w U ∧ OO.isSome = true) := by
        rw [E]
        exact ⟨h1, s2.keptT (SW.out.tre.below b2).out gU, h2, rfl⟩
      clear h1 h2 gU s2 b2 hg2 lt_ lp_ SW
      go_wp2
      refine bodyPost_ret (results_rowtmp rtT Try.results22 _ _ _ _ rfl G.out.1 (trc_size _ _)) rfl ?_
      exact ⟨some ⟨g2, 0, none⟩, c2, by rw [G.out.2.2.2]; rfl, G.out.2.1, G.out.2.2.1⟩
    have E : OO = none := by
      rw [← EO.out, EA.out]
      unfold orO rotO
      simp only
      rw [HP.out, ERY.out, if_neg (by rw [EC0.out]; decide), if_neg (by rw [EC1.out]; decide), if_neg (by rw [EC2.out]; decide), if_neg (by rw [EC3.out]; decide), if_neg (by rw [EC4.out]; decide)]
    have lt_ := (T1.out).tre.var.tld
    obtain ⟨U, sU, h1, h2, gU⟩ := (T1.out).tre.tell (y := .slice (some ⟨g, o, none⟩) n c) rfl
    have G : Hid (RvAt U (w.heap.size + 1) 31 (trc h (.slice (some ⟨g, o, none⟩) n c)) ∧ SlAt U (some ⟨g, o, none⟩) n c (OO.getD l) ∧ Below w.heap.size w U ∧ OO.isSome = false) := by
      rw [E]
      exact ⟨h1, (T1.out).sl.keptT (T1.out).tre.out gU, h2, rfl⟩
    clear h1 h2 gU E R
    go_wp2
    refine bodyPost_ret (results_rowtmp rtT Try.results22 _ _ _ _ rfl G.out.1 (trc_size _ _)) rfl ?_
    exact ⟨some ⟨g, o, none⟩, c, by rw [G.out.2.2.2]; rfl, G.out.2.1, G.out.2.2.1⟩
end Go.Proofs.Ytdlleecfmebenaa
