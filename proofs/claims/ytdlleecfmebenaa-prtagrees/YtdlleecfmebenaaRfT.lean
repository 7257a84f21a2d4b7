/-
  The definition's port that stands by: the walk of alternate.
-/
import Derived.Test.YtdlleecfmebenaaRfR
namespace Go.Proofs.Ytdlleecfmebenaa
set_option linter.unusedVariables false
set_option maxRecDepth 4000
set_option linter.unusedSimpArgs false
open Go.RowKit

/-- What becomes of the ports where one stands by and nothing is to be answered, if anything. -/
def altO (l : List Pt) (k : Nat) : Option (List Pt) :=
  if looB (gtP l k) 43 = true then some (l.set k (blkP (gtP l k))) else if bckB (gtP l k) = true then some (l.set k (bkuP (gtP l k))) else none
attribute [local go_sem ↓] ldP stP stB stU stW ldT stT
attribute [local go_sem ↓] alP
attribute [local go_sem] alP_run
set_option maxHeartbeats 16000000 in
theorem ralt_any (h : Hd) (g o n c : Nat) (l : List Pt) (k : Nat) (w : World) (hs : SlAt w (some ⟨g, o, none⟩) n c l) (hn : n ≤ 1000) (hk : k < n) :
    Calls Try.prog 24 #[.agg (trc h (.slice (some ⟨g, o, none⟩) n c)), .int .i64 (k : Int)] w fun r w' => ∃ a' c', r = .returned (.tuple #[.agg (trc h (.slice a' n c')), .bool (orO (agrO l k) (altO l k)).isSome]) ∧ SlAt w' a' n c' ((orO (agrO l k) (altO l k)).getD l) ∧ Below w.heap.size w w' := by
  obtain ⟨OO, hOO⟩ : ∃ z, orO (agrO l k) (altO l k) = z := ⟨_, rfl⟩
  rw [hOO]
  have EO : Hid (orO (agrO l k) (altO l k) = OO) := hOO
  clear hOO
  have HL : Hid (l.length = n) := hs.len
  have hkl : k < l.length := by rw [HL.out]; exact hk
  have hin0 : (0 : Int) ≤ (k : Int) := by omega
  have hin1 : (k : Int) < (n : Int) := by omega
  obtain ⟨W, hW, r0, r1, bW, zW⟩ := two_t w h (.slice (some ⟨g, o, none⟩) n c)
  have l0 := r0.tld
  have c16 := r0.t16
  have H : Hid (TS w W w.heap.size (w.heap.size + 1) h (.slice (some ⟨g, o, none⟩) n c) ∧ SlAt W (some ⟨g, o, none⟩) n c l ∧ W.heap.size = w.heap.size + 2) := ⟨⟨r0, r1, bW, by omega⟩, hs.below bW, zW⟩
  have GL : Hid (g < w.heap.size) := hs.low (by omega)
  have HS : Hid (SlAt w (some ⟨g, o, none⟩) n c l) := hs
  obtain ⟨p, hp⟩ : ∃ p, gtP l k = p := ⟨_, rfl⟩
  have HP : Hid (gtP l k = p) := hp
  obtain ⟨AO, hAO⟩ : ∃ z, agrO l k = z := ⟨_, rfl⟩
  have EA : Hid (agrO l k = AO) := hAO
  clear hs r0 r1 bW zW hp hAO c16
  go_enter Try.func24, Try.ntmps24
  go_wp2_with fail
  refine (ragr_any h g o n c l k W H.out.2.1 hn hk).mono ?_
  rw [EA.out]
  rintro _ X ⟨a1, c1, rfl, s1, b1⟩
  obtain ⟨V1, t1, rV1, bV1, zV1⟩ := new_tv X h (.slice a1 n c1) rfl
  have T0 : Hid (TS w V1 w.heap.size (w.heap.size + 1) h (.slice (some ⟨g, o, none⟩) n c) ∧ SlAt V1 (some ⟨g, o, none⟩) n c l ∧ SlAt V1 a1 n c1 (AO.getD l) ∧ RvAt V1 X.heap.size 31 (trc h (.slice a1 n c1)) ∧ w.heap.size ≤ V1.heap.size) := ⟨(H.out.1.below b1).below bV1, (H.out.2.1.below b1).below bV1, s1.below bV1, rV1, by have := H.out.2.2; have := b1.size; have := bV1.size; omega⟩
  clear s1 b1 rV1 bV1 zV1 l0
  cases AO with
  | some m =>
    have E : OO = some m := by rw [← EO.out, EA.out]; rfl
    have lu := T0.out.2.2.2.1.tld
    obtain ⟨U, sU, h1, h2, gU⟩ := T0.out.1.tell (y := .slice a1 n c1) rfl
    have G : Hid (RvAt U (w.heap.size + 1) 31 (trc h (.slice a1 n c1)) ∧ SlAt U a1 n c1 (OO.getD l) ∧ Below w.heap.size w U ∧ OO.isSome = true) := by
      rw [E]
      exact ⟨h1, T0.out.2.2.1.keptT T0.out.1.out gU, h2, rfl⟩
    clear h1 h2 gU E
    simp only [Option.isSome_some]
    go_wp2
    refine bodyPost_ret (results_rowtmp rtT Try.results24 _ _ _ _ rfl G.out.1 (trc_size _ _)) rfl ?_
    exact ⟨a1, c1, by rw [G.out.2.2.2]; rfl, G.out.2.1, G.out.2.2.1⟩
  | none =>
    have c16 := T0.out.1.var.t16
    have lp := T0.out.2.1.ld (gtP_at hkl)
    rw [HP.out] at lp
    obtain ⟨W0, s0, r0, b0, z0⟩ := var_p V1 p
    obtain ⟨Z, hZ⟩ : ∃ Z, V1.heap.size = Z := ⟨_, rfl⟩
    rw [hZ] at s0 r0
    have P0 : Hid (TP w W0 w.heap.size (w.heap.size + 1) Z h g o n c l p) := ⟨T0.out.1.below b0, T0.out.2.1.below b0, r0, by have := T0.out.2.2.2.2; omega, GL.out⟩
    clear r0 b0 z0
    simp only [Option.isSome_none]
    have lq := P0.out.pv.pld
    have l43 := P0.out.pv.pnum (j := 43) (k := .u8) rfl
    obtain ⟨C0, hC0⟩ : ∃ z, ((p.nm 65 != p.nm 43) || askP p) = z := ⟨_, rfl⟩
    have EC0 : Hid (looB p 43 = C0) := hC0
    obtain ⟨C1, hC1⟩ : ∃ z, ((p.nm 30 == 2) && (p.nm 68 != twN (p.nm 42))) = z := ⟨_, rfl⟩
    have EC1 : Hid (bckB p = C1) := hC1
    have HC1 : Hid (((p.nm 30 == 2) && (p.nm 68 != twN (p.nm 42))) = C1) := hC1
    go_wp2_with fail
    refine (rloo_any p (p.nm 43) W0).mono ?_
    rw [hC0]
    rintro _ X2 ⟨rfl, bx⟩
    have T1 : Hid (TP w X2 w.heap.size (w.heap.size + 1) Z h g o n c l p) := P0.out.below bx
    clear bx lq l43 hC0 hC1 t1 c16 lp s0 hZ P0
    cases C0
    rotate_left
    · have E : OO = some (l.set k (rstP p (p.nm 43) 6 wi6)) := by
        rw [← EO.out, EA.out]
        unfold orO altO
        simp only
        rw [HP.out, if_pos EC0.out, blk_ref]
      have ft := fun x : Later X2 => (T1.out.below x.below).tre.var.tld
      have fp := fun x : Later X2 => (T1.out.below x.below).pv.pld
      have f43 := fun x : Later X2 => (T1.out.below x.below).pv.pnum (j := 43) (k := .u8) rfl
      have P1 : Hid (∀ x : Later X2, _) := fun x : Later X2 => rrst_any p (p.nm 43) 6 x.val (p.u8 rfl) wi6
      go_upto_region 6 with fail
      refine wp_region_later_tail 7 (by kernel_rfl) (by kernel_rfl) ?_
      simp only [List.take_succ_cons, List.take_zero]
      repeat (go_big_quiet_step (first | exact rfl | (go_at_call 20; with_reducible exact Calls.later_of (P1.out _))))
      refine wpQuiet_nil ?_
      intro z
      simp only [List.drop_succ_cons, List.drop_zero]
      have TZ : Hid (TP w z.val w.heap.size (w.heap.size + 1) Z h g o n c l p) := T1.out.below z.below
      clear ft fp f43 P1
      go_wp2_with fail
      refine (with_any h (some ⟨g, o, none⟩) n c l k (rstP p (p.nm 43) 6 wi6) _ TZ.out.sl hn hk).mono ?_
      rintro _ Y ⟨g2, c2, rfl, hg2, s2, b2⟩
      obtain ⟨U, sU, h1, h2, gU⟩ := (TZ.out.tre.below b2).tell (y := .slice (some ⟨g2, 0, none⟩) n c2) rfl
      have G : Hid (RvAt U (w.heap.size + 1) 31 (trc h (.slice (some ⟨g2, 0, none⟩) n c2)) ∧ SlAt U (some ⟨g2, 0, none⟩) n c2 (OO.getD l) ∧ Below w.heap.size w U ∧ OO.isSome = true) := by
        rw [E]
        exact ⟨h1, s2.keptT (TZ.out.tre.below b2).out gU, h2, rfl⟩
      clear h1 h2 gU s2 b2 hg2 TZ
      go_wp2
      refine bodyPost_ret (results_rowtmp rtT Try.results24 _ _ _ _ rfl G.out.1 (trc_size _ _)) rfl ?_
      exact ⟨some ⟨g2, 0, none⟩, c2, by rw [G.out.2.2.2]; rfl, G.out.2.1, G.out.2.2.1⟩
    have R := T1.out.pv.rdL
    have N42 : 0 ≤ p.nm 42 ∧ p.nm 42 ≤ 255 := p.u8 rfl
    go_upto_region 7 with fail
    refine wp_region_later (by kernel_rfl) (by kernel_rfl) ?_
    refine q_put (v := .pointer (some ⟨Z, 0 + 30, none⟩)) (yq rfl (Rn.qt (qfield rfl rfl fp30))) ?_
    try simp only [Act.put, List.setIfInBounds_toArray, List.set_cons_zero, List.set_cons_succ]
    refine q_put (v := .int .i64 (p.nm 30)) (yq rfl (Rn.qt (qload rfl rfl (R.role rfl)))) ?_
    try simp only [Act.put, List.setIfInBounds_toArray, List.set_cons_zero, List.set_cons_succ]
    refine q_put (v := .bool ((p.nm 30) == 2)) (yq rfl (Rn.qt (qbin rfl rfl rfl (eg_role _ _ _ _ _) (eq_role _ _)))) ?_
    try simp only [Act.put, List.setIfInBounds_toArray, List.set_cons_zero, List.set_cons_succ]
    refine q_put (v := .bool ((p.nm 30) == 2)) (yq rfl (Rn.qt (qmove rfl rfl))) ?_
    try simp only [Act.put, List.setIfInBounds_toArray, List.set_cons_zero, List.set_cons_succ]
    refine q_put (v := gd ((p.nm 30) == 2) true (.pointer (some ⟨Z, 0 + 68, none⟩))) (yq1 rfl rfl (fun e => Rn.qt (qfield rfl rfl fp41))) ?_
    try simp only [Act.put, List.setIfInBounds_toArray, List.set_cons_zero, List.set_cons_succ]
    refine q_put (v := gd ((p.nm 30) == 2) true (.int .u8 (p.nm 68))) (yq1 rfl rfl (fun e => Rn.qt (qload rfl (on e rfl) (R.u8 rfl)))) ?_
    try simp only [Act.put, List.setIfInBounds_toArray, List.set_cons_zero, List.set_cons_succ]
    refine q_put (v := gd ((p.nm 30) == 2) true (.pointer (some ⟨Z, 0 + 40, none⟩))) (yq1 rfl rfl (fun e => Rn.qt (qfield rfl rfl fp34))) ?_
    try simp only [Act.put, List.setIfInBounds_toArray, List.set_cons_zero, List.set_cons_succ]
    refine q_put (v := gd ((p.nm 30) == 2) true (.pointer (some ⟨Z, 0 + 40 + 2, none⟩))) (yq1 rfl rfl (fun e => Rn.qt (qfield rfl (on e rfl) ft2))) ?_
    try simp only [Act.put, List.setIfInBounds_toArray, List.set_cons_zero, List.set_cons_succ]
    refine q_put (v := gd ((p.nm 30) == 2) true (.int .u8 (p.nm 42))) (yq1 rfl rfl (fun e => Rn.qt (qload rfl (on e rfl) (R.dt rfl rfl)))) ?_
    try simp only [Act.put, List.setIfInBounds_toArray, List.set_cons_zero, List.set_cons_succ]
    refine q_put (v := gd ((p.nm 30) == 2) true (.int .u8 (twN (p.nm 42)))) (yq1 rfl rfl (fun e => qcall1 rfl (on e rfl) (fun V => by go_simp) (fun w hw => by obtain ⟨x, rfl⟩ := hw; exact Calls.later_of (rtw_any (p.nm 42) x.val N42)))) ?_
    try simp only [Act.put, List.setIfInBounds_toArray, List.set_cons_zero, List.set_cons_succ]
    refine q_put (v := gd ((p.nm 30) == 2) true (.bool ((p.nm 68) != (twN (p.nm 42))))) (yq1 rfl rfl (fun e => Rn.qt (qbin rfl (on e rfl) (on e rfl) (eg_u8 _ _ _ _ _) (ne_u8 _ _)))) ?_
    try simp only [Act.put, List.setIfInBounds_toArray, List.set_cons_zero, List.set_cons_succ]
    refine q_put (v := .bool (((p.nm 30) == 2) && ((p.nm 68) != (twN (p.nm 42))))) (yq rfl (Rn.qt (qpick rfl rfl (pkA rfl rfl)))) ?_
    try simp only [Act.put, List.setIfInBounds_toArray, List.set_cons_zero, List.set_cons_succ]
    refine wpQuiet_nil ?_
    rintro _ ⟨y, rfl⟩
    obtain ⟨V, hV⟩ : ∃ V, y.val = V := ⟨_, rfl⟩
    have bV : Below X2.heap.size X2 V := by rw [← hV]; exact y.below
    rw [hV]
    have T2 : Hid (TP w V w.heap.size (w.heap.size + 1) Z h g o n c l p) := T1.out.below bV
    clear R hV bV y T1
    rw [HC1.out]
    cases C1
    · have E : OO = none := by
        rw [← EO.out, EA.out]
        unfold orO altO
        simp only
        rw [HP.out, if_neg (by rw [EC0.out]; decide), if_neg (by rw [EC1.out]; decide)]
      have lt_ := (T2.out).tre.var.tld
      obtain ⟨U, sU, h1, h2, gU⟩ := (T2.out).tre.tell (y := .slice (some ⟨g, o, none⟩) n c) rfl
      have G : Hid (RvAt U (w.heap.size + 1) 31 (trc h (.slice (some ⟨g, o, none⟩) n c)) ∧ SlAt U (some ⟨g, o, none⟩) n c (OO.getD l) ∧ Below w.heap.size w U ∧ OO.isSome = false) := by
        rw [E]
        exact ⟨h1, (T2.out).sl.keptT (T2.out).tre.out gU, h2, rfl⟩
      clear h1 h2 gU E
      go_wp2
      refine bodyPost_ret (results_rowtmp rtT Try.results24 _ _ _ _ rfl G.out.1 (trc_size _ _)) rfl ?_
      exact ⟨some ⟨g, o, none⟩, c, by rw [G.out.2.2.2]; rfl, G.out.2.1, G.out.2.2.1⟩
    · have E : OO = some (l.set k (bkuP p)) := by
        rw [← EO.out, EA.out]
        unfold orO altO
        simp only
        rw [HP.out, if_neg (by rw [EC0.out]; decide), if_pos EC1.out]
      have l42 := T2.out.pv.pnum (j := 42) (k := .u8) rfl
      go_wp2_with fail
      refine (rtw_any (p.nm 42) _ N42).mono ?_
      rintro _ X3 ⟨rfl, bx⟩
      have S0 := T2.out.below bx
      obtain ⟨W1, s1, S1⟩ := S0.setU ku68 (x := twN (p.nm 42)) (twN_in N42)
      have S1 : TP w W1 w.heap.size (w.heap.size + 1) Z h g o n c l (bkuP p) := S1
      clear l42
      have SW : Hid (TP w _ w.heap.size (w.heap.size + 1) Z h g o n c l (bkuP p)) := S1
      have lt_ := SW.out.tre.var.tld
      have lp_ := SW.out.pv.pld
      clear S0 S1 bx
      go_wp2_with fail
      refine (with_any h (some ⟨g, o, none⟩) n c l k (bkuP p) _ SW.out.sl hn hk).mono ?_
      rintro _ X ⟨g2, c2, rfl, hg2, s2, b2⟩
      obtain ⟨U, sU, h1, h2, gU⟩ := (SW.out.tre.below b2).tell (y := .slice (some ⟨g2, 0, none⟩) n c2) rfl
      have G : Hid (RvAt U (w.heap.size + 1) 31 (trc h (.slice (some ⟨g2, 0, none⟩) n c2)) ∧ SlAt U (some ⟨g2, 0, none⟩) n c2 (OO.getD l) ∧ Below w.heap.size w U ∧ OO.isSome = true) := by
        rw [E]
        exact ⟨h1, s2.keptT (SW.out.tre.below b2).out gU, h2, rfl⟩
      clear h1 h2 gU s2 b2 hg2 lt_ lp_ SW
      go_wp2
      refine bodyPost_ret (results_rowtmp rtT Try.results24 _ _ _ _ rfl G.out.1 (trc_size _ _)) rfl ?_
      exact ⟨some ⟨g2, 0, none⟩, c2, by rw [G.out.2.2.2]; rfl, G.out.2.1, G.out.2.2.1⟩
end Go.Proofs.Ytdlleecfmebenaa
