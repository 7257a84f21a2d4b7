/-
  The definition: the walk of learning, for every tree.
-/
import Derived.Test.YtfjigbmhheekbaaRfB
import Derived.Test.YtfjigbmhheekbaaRfP
import Derived.Test.YtfjigbmhheekbaaSym
namespace Go.Proofs.Ytfjigbmhheekbaa
set_option linter.unusedVariables false
set_option maxRecDepth 4000
set_option linter.unusedSimpArgs false
open Go.RowKit

attribute [local go_sem ↓] ldP stP stB stU stW ldT stT st32 alP
attribute [local go_sem] alP_run
theorem RvAt.rdE {W : World} {z : Nat} {p : Pt} (h : RvAt W z 36 p.cs) : Prd (fun w' => w' = W) z 0 p := ⟨fun j v hv w hw => by
  subst hw
  rw [Nat.zero_add]
  exact h.cell j v (by rw [Row.cget]; exact hv)⟩
theorem fp17 : FAt 36 17 17 := fun b q w => by go_simp
theorem fp18 : FAt 36 18 18 := fun b q w => by go_simp
theorem fp19 : FAt 36 19 19 := fun b q w => by go_simp
theorem fp27 : FAt 36 27 27 := fun b q w => by go_simp
theorem set_three (l : List Pt) (k : Nat) (q r : Pt) : (prpL (l.set k q) k).set k r = sprL l k r := by
  rw [prp_set, spr_set]
theorem prp_at {l : List Pt} {k : Nat} {q : Pt} (hk : k < l.length) : gtP (prpL (l.set k q) k) k = q := by
  rw [prp_set, spr_at q hk, if_pos rfl]
set_option maxHeartbeats 4000000 in
theorem rlea_in (h : Hd) (a : Option Addr) (n c : Nat) (l : List Pt) (k : Nat) (w : World) (hs : SlAt w a n c l) (hn : n ≤ 1000) (hk : k < n) :
    Calls Try.prog 34 #[.agg (trc h (.slice a n c)), .int .i64 (k : Int), .bool (hasB (gtP l k))] w fun r w' => TBs w h n l (leaO h l k) r w' := by
  obtain ⟨OO, hOO⟩ : ∃ z, leaO h l k = z := ⟨_, rfl⟩
  rw [hOO]
  have EO : Hid (leaO h l k = OO) := hOO
  clear hOO
  obtain ⟨g, o, rfl⟩ := hs.some' (by omega)
  have HL : Hid (l.length = n ∧ n ≤ 1000 ∧ k < n ∧ k < l.length) := ⟨hs.len, hn, hk, by rw [hs.len]; exact hk⟩
  have hin0 : (0 : Int) ≤ (k : Int) := by omega
  have hin1 : (k : Int) < (n : Int) := by omega
  obtain ⟨W, hW, r0, r1, bW, zW⟩ := two_t w h (.slice (some ⟨g, o, none⟩) n c)
  have GL : g < w.heap.size := hs.low (by omega)
  have c16 := r0.t16
  have lp := (hs.below bW).ld (gtP_at HL.out.2.2.2)
  obtain ⟨p, hp⟩ : ∃ p, gtP l k = p := ⟨_, rfl⟩
  rw [hp] at lp
  have HP : Hid (gtP l k = p) := hp
  obtain ⟨W0, s0, r0', b0, z0⟩ := var_p W p
  obtain ⟨Z, hZ⟩ : ∃ Z, W.heap.size = Z := ⟨_, rfl⟩
  rw [hZ] at s0 r0'
  have T0 : Hid (TV w W0 w.heap.size (w.heap.size + 1) Z h (some ⟨g, o, none⟩) n c l p) := ⟨⟨r0.below b0, r1.below b0, below_over bW b0, by omega⟩, (hs.below bW).below b0, r0', by omega, Nat.le_refl _, by omega, fun x e => by cases e; show g ≠ Z; omega⟩
  clear hs hn hk r0 r1 bW zW b0 z0 r0' hp GL
  obtain ⟨b7, h7⟩ : ∃ z, p.bt 7 = z := ⟨_, rfl⟩
  have H7 : Hid (p.bt 7 = b7) := h7
  clear h7
  obtain ⟨b9, h9⟩ : ∃ z, p.bt 9 = z := ⟨_, rfl⟩
  have H9 : Hid (p.bt 9 = b9) := h9
  clear h9
  obtain ⟨b10, h10⟩ : ∃ z, p.bt 10 = z := ⟨_, rfl⟩
  have H10 : Hid (p.bt 10 = b10) := h10
  clear h10
  obtain ⟨PB, hPB⟩ : ∃ z, hasB p = z := ⟨_, rfl⟩
  have EP : Hid (hasB p = PB) := hPB
  rw [HP.out, hPB]
  obtain ⟨TB, hTB⟩ : ∃ z, tldB p = z := ⟨_, rfl⟩
  have ET : Hid (tldB p = TB) := hTB
  have ET2 : Hid ((((p.bt 17 || p.bt 19) || p.bt 18) || p.bt 27) = TB) := hTB
  clear hPB hTB
  have R := T0.out.pv.rdE
  go_enter Try.func34, Try.ntmps34
  go_upto_region 2 with fail
  refine wp_plain (C := fun w' => w' = W0) rfl ?_
  refine q_put (v := .pointer (some ⟨Z, 0 + 17, none⟩)) (yq rfl (Rn.qt (qfield rfl rfl fp17))) ?_
  try simp only [Act.put, List.setIfInBounds_toArray, List.set_cons_zero, List.set_cons_succ]
  refine q_put (v := .bool (p.bt 17)) (yq rfl (Rn.qt (qload rfl rfl (R.bit rfl)))) ?_
  try simp only [Act.put, List.setIfInBounds_toArray, List.set_cons_zero, List.set_cons_succ]
  refine q_put (v := .bool (p.bt 17)) (yq rfl (Rn.qt (qmove rfl rfl))) ?_
  try simp only [Act.put, List.setIfInBounds_toArray, List.set_cons_zero, List.set_cons_succ]
  refine q_put (v := gd (p.bt 17) false (.pointer (some ⟨Z, 0 + 19, none⟩))) (yq1 rfl rfl (fun e => Rn.qt (qfield rfl rfl fp19))) ?_
  try simp only [Act.put, List.setIfInBounds_toArray, List.set_cons_zero, List.set_cons_succ]
  refine q_put (v := gd (p.bt 17) false (.bool (p.bt 19))) (yq1 rfl rfl (fun e => Rn.qt (qload rfl (on e rfl) (R.bit rfl)))) ?_
  try simp only [Act.put, List.setIfInBounds_toArray, List.set_cons_zero, List.set_cons_succ]
  refine q_put (v := .bool ((p.bt 17) || (p.bt 19))) (yq rfl (Rn.qt (qpick rfl rfl (pkO rfl rfl)))) ?_
  try simp only [Act.put, List.setIfInBounds_toArray, List.set_cons_zero, List.set_cons_succ]
  refine q_put (v := .bool ((p.bt 17) || (p.bt 19))) (yq rfl (Rn.qt (qmove rfl rfl))) ?_
  try simp only [Act.put, List.setIfInBounds_toArray, List.set_cons_zero, List.set_cons_succ]
  refine q_put (v := gd ((p.bt 17) || (p.bt 19)) false (.pointer (some ⟨Z, 0 + 18, none⟩))) (yq1 rfl rfl (fun e => Rn.qt (qfield rfl rfl fp18))) ?_
  try simp only [Act.put, List.setIfInBounds_toArray, List.set_cons_zero, List.set_cons_succ]
  refine q_put (v := gd ((p.bt 17) || (p.bt 19)) false (.bool (p.bt 18))) (yq1 rfl rfl (fun e => Rn.qt (qload rfl (on e rfl) (R.bit rfl)))) ?_
  try simp only [Act.put, List.setIfInBounds_toArray, List.set_cons_zero, List.set_cons_succ]
  refine q_put (v := .bool (((p.bt 17) || (p.bt 19)) || (p.bt 18))) (yq rfl (Rn.qt (qpick rfl rfl (pkO rfl rfl)))) ?_
  try simp only [Act.put, List.setIfInBounds_toArray, List.set_cons_zero, List.set_cons_succ]
  refine q_put (v := .bool (((p.bt 17) || (p.bt 19)) || (p.bt 18))) (yq rfl (Rn.qt (qmove rfl rfl))) ?_
  try simp only [Act.put, List.setIfInBounds_toArray, List.set_cons_zero, List.set_cons_succ]
  refine q_put (v := gd (((p.bt 17) || (p.bt 19)) || (p.bt 18)) false (.pointer (some ⟨Z, 0 + 27, none⟩))) (yq1 rfl rfl (fun e => Rn.qt (qfield rfl rfl fp27))) ?_
  try simp only [Act.put, List.setIfInBounds_toArray, List.set_cons_zero, List.set_cons_succ]
  refine q_put (v := gd (((p.bt 17) || (p.bt 19)) || (p.bt 18)) false (.bool (p.bt 27))) (yq1 rfl rfl (fun e => Rn.qt (qload rfl (on e rfl) (R.bit rfl)))) ?_
  try simp only [Act.put, List.setIfInBounds_toArray, List.set_cons_zero, List.set_cons_succ]
  refine q_put (v := .bool ((((p.bt 17) || (p.bt 19)) || (p.bt 18)) || (p.bt 27))) (yq rfl (Rn.qt (qpick rfl rfl (pkO rfl rfl)))) ?_
  try simp only [Act.put, List.setIfInBounds_toArray, List.set_cons_zero, List.set_cons_succ]
  refine q_put (v := .bool ((((p.bt 17) || (p.bt 19)) || (p.bt 18)) || (p.bt 27))) (yq rfl (Rn.qt (qassign rfl rfl))) ?_
  try simp only [Act.put, List.setIfInBounds_toArray, List.set_cons_zero, List.set_cons_succ]
  refine wpQuiet_nil ?_
  rintro y hy
  rw [hy]
  clear hy y R
  rw [ET2.out]
  clear ET2
  cases PB
  · cases b9
    · cases b10
      · cases TB
        · have E : OO = some (l.set k (quiP p)) := by
            rw [← EO.out]
            unfold leaO
            rw [HP.out]
            rw [if_neg (by rw [EP.out]; simp), if_pos (by rw [EP.out, H9.out, H10.out, ET.out]; simp)]
          have E : Hid (OO = some (l.set k (quiP p))) := E
          have c7 := T0.out.pv.pbit (j := 7) rfl
          rw [H7.out] at c7
          have c9 := T0.out.pv.pbit (j := 9) rfl
          rw [H9.out] at c9
          have c10 := T0.out.pv.pbit (j := 10) rfl
          rw [H10.out] at c10
          have lt9 := T0.out.tre.var.tld
          go_wp2_with fail
          refine (rquiet_in h (some ⟨g, o, none⟩) n c l k W0 T0.out.sl HL.out.2.1 HL.out.2.2.1).mono ?_
          rintro _ Y ⟨a8, c8, rfl, s8, b8⟩
          rw [HP.out] at s8
          obtain ⟨U, sU, h1, h2, gU⟩ := (T0.out.tre.below b8).tell (y := .slice a8 n c8) rfl
          have G : Hid (RvAt U (w.heap.size + 1) 43 (trc h (.slice a8 n c8)) ∧ SlAt U a8 n c8 (OO.getD l) ∧ Below w.heap.size w U ∧ OO.isSome = true) := by
            rw [E.out]
            exact ⟨h1, s8.keptT (T0.out.tre.below b8).out gU, h2, rfl⟩
          clear h1 h2 gU
          go_wp2
          refine bodyPost_ret (results_tb Try.results34 _ _ _ _ _ rfl G.out.1) rfl ?_
          exact ⟨a8, c8, by rw [G.out.2.2.2]; rfl, G.out.2.1, G.out.2.2.1⟩
        · have E : OO = some (l.set k (lrnP p)) := by
            rw [← EO.out]
            unfold leaO
            rw [HP.out]
            rw [if_neg (by rw [EP.out]; simp), if_neg (by rw [EP.out, H9.out, H10.out, ET.out]; simp), if_pos ET.out]
          have E : Hid (OO = some (l.set k (lrnP p))) := E
          have c7 := T0.out.pv.pbit (j := 7) rfl
          rw [H7.out] at c7
          have c9 := T0.out.pv.pbit (j := 9) rfl
          rw [H9.out] at c9
          have c10 := T0.out.pv.pbit (j := 10) rfl
          rw [H10.out] at c10
          have lt9 := T0.out.tre.var.tld
          go_wp2_with fail
          refine (rlearns_in h (some ⟨g, o, none⟩) n c l k W0 T0.out.sl HL.out.2.1 HL.out.2.2.1).mono ?_
          rintro _ Y ⟨a8, c8, rfl, s8, b8⟩
          rw [HP.out] at s8
          obtain ⟨U, sU, h1, h2, gU⟩ := (T0.out.tre.below b8).tell (y := .slice a8 n c8) rfl
          have G : Hid (RvAt U (w.heap.size + 1) 43 (trc h (.slice a8 n c8)) ∧ SlAt U a8 n c8 (OO.getD l) ∧ Below w.heap.size w U ∧ OO.isSome = true) := by
            rw [E.out]
            exact ⟨h1, s8.keptT (T0.out.tre.below b8).out gU, h2, rfl⟩
          clear h1 h2 gU
          go_wp2
          refine bodyPost_ret (results_tb Try.results34 _ _ _ _ _ rfl G.out.1) rfl ?_
          exact ⟨a8, c8, by rw [G.out.2.2.2]; rfl, G.out.2.1, G.out.2.2.1⟩
      · cases TB
        · have E : OO = none := by
            rw [← EO.out]
            unfold leaO
            rw [HP.out]
            rw [if_neg (by rw [EP.out]; simp), if_neg (by rw [EP.out, H9.out, H10.out]; simp), if_neg (by rw [ET.out]; simp)]
          have E : Hid (OO = none) := E
          have c7 := T0.out.pv.pbit (j := 7) rfl
          rw [H7.out] at c7
          have c9 := T0.out.pv.pbit (j := 9) rfl
          rw [H9.out] at c9
          have c10 := T0.out.pv.pbit (j := 10) rfl
          rw [H10.out] at c10
          have lt9 := T0.out.tre.var.tld
          obtain ⟨U, sU, h1, h2, gU⟩ := (T0.out.tre).tell (y := .slice (some ⟨g, o, none⟩) n c) rfl
          have G : Hid (RvAt U (w.heap.size + 1) 43 (trc h (.slice (some ⟨g, o, none⟩) n c)) ∧ SlAt U (some ⟨g, o, none⟩) n c (OO.getD l) ∧ Below w.heap.size w U ∧ OO.isSome = false) := by
            rw [E.out]
            exact ⟨h1, T0.out.sl.keptT (T0.out.tre).out gU, h2, rfl⟩
          clear h1 h2 gU
          go_wp2
          refine bodyPost_ret (results_tb Try.results34 _ _ _ _ _ rfl G.out.1) rfl ?_
          exact ⟨some ⟨g, o, none⟩, c, by rw [G.out.2.2.2]; rfl, G.out.2.1, G.out.2.2.1⟩
        · have E : OO = some (l.set k (lrnP p)) := by
            rw [← EO.out]
            unfold leaO
            rw [HP.out]
            rw [if_neg (by rw [EP.out]; simp), if_neg (by rw [EP.out, H9.out, H10.out]; simp), if_pos ET.out]
          have E : Hid (OO = some (l.set k (lrnP p))) := E
          have c7 := T0.out.pv.pbit (j := 7) rfl
          rw [H7.out] at c7
          have c9 := T0.out.pv.pbit (j := 9) rfl
          rw [H9.out] at c9
          have c10 := T0.out.pv.pbit (j := 10) rfl
          rw [H10.out] at c10
          have lt9 := T0.out.tre.var.tld
          go_wp2_with fail
          refine (rlearns_in h (some ⟨g, o, none⟩) n c l k W0 T0.out.sl HL.out.2.1 HL.out.2.2.1).mono ?_
          rintro _ Y ⟨a8, c8, rfl, s8, b8⟩
          rw [HP.out] at s8
          obtain ⟨U, sU, h1, h2, gU⟩ := (T0.out.tre.below b8).tell (y := .slice a8 n c8) rfl
          have G : Hid (RvAt U (w.heap.size + 1) 43 (trc h (.slice a8 n c8)) ∧ SlAt U a8 n c8 (OO.getD l) ∧ Below w.heap.size w U ∧ OO.isSome = true) := by
            rw [E.out]
            exact ⟨h1, s8.keptT (T0.out.tre.below b8).out gU, h2, rfl⟩
          clear h1 h2 gU
          go_wp2
          refine bodyPost_ret (results_tb Try.results34 _ _ _ _ _ rfl G.out.1) rfl ?_
          exact ⟨a8, c8, by rw [G.out.2.2.2]; rfl, G.out.2.1, G.out.2.2.1⟩
    · cases TB
      · have E : OO = none := by
          rw [← EO.out]
          unfold leaO
          rw [HP.out]
          rw [if_neg (by rw [EP.out]; simp), if_neg (by rw [EP.out, H9.out]; simp), if_neg (by rw [ET.out]; simp)]
        have E : Hid (OO = none) := E
        have c7 := T0.out.pv.pbit (j := 7) rfl
        rw [H7.out] at c7
        have c9 := T0.out.pv.pbit (j := 9) rfl
        rw [H9.out] at c9
        have c10 := T0.out.pv.pbit (j := 10) rfl
        rw [H10.out] at c10
        have lt9 := T0.out.tre.var.tld
        obtain ⟨U, sU, h1, h2, gU⟩ := (T0.out.tre).tell (y := .slice (some ⟨g, o, none⟩) n c) rfl
        have G : Hid (RvAt U (w.heap.size + 1) 43 (trc h (.slice (some ⟨g, o, none⟩) n c)) ∧ SlAt U (some ⟨g, o, none⟩) n c (OO.getD l) ∧ Below w.heap.size w U ∧ OO.isSome = false) := by
          rw [E.out]
          exact ⟨h1, T0.out.sl.keptT (T0.out.tre).out gU, h2, rfl⟩
        clear h1 h2 gU
        go_wp2
        refine bodyPost_ret (results_tb Try.results34 _ _ _ _ _ rfl G.out.1) rfl ?_
        exact ⟨some ⟨g, o, none⟩, c, by rw [G.out.2.2.2]; rfl, G.out.2.1, G.out.2.2.1⟩
      · have E : OO = some (l.set k (lrnP p)) := by
          rw [← EO.out]
          unfold leaO
          rw [HP.out]
          rw [if_neg (by rw [EP.out]; simp), if_neg (by rw [EP.out, H9.out]; simp), if_pos ET.out]
        have E : Hid (OO = some (l.set k (lrnP p))) := E
        have c7 := T0.out.pv.pbit (j := 7) rfl
        rw [H7.out] at c7
        have c9 := T0.out.pv.pbit (j := 9) rfl
        rw [H9.out] at c9
        have c10 := T0.out.pv.pbit (j := 10) rfl
        rw [H10.out] at c10
        have lt9 := T0.out.tre.var.tld
        go_wp2_with fail
        refine (rlearns_in h (some ⟨g, o, none⟩) n c l k W0 T0.out.sl HL.out.2.1 HL.out.2.2.1).mono ?_
        rintro _ Y ⟨a8, c8, rfl, s8, b8⟩
        rw [HP.out] at s8
        obtain ⟨U, sU, h1, h2, gU⟩ := (T0.out.tre.below b8).tell (y := .slice a8 n c8) rfl
        have G : Hid (RvAt U (w.heap.size + 1) 43 (trc h (.slice a8 n c8)) ∧ SlAt U a8 n c8 (OO.getD l) ∧ Below w.heap.size w U ∧ OO.isSome = true) := by
          rw [E.out]
          exact ⟨h1, s8.keptT (T0.out.tre.below b8).out gU, h2, rfl⟩
        clear h1 h2 gU
        go_wp2
        refine bodyPost_ret (results_tb Try.results34 _ _ _ _ _ rfl G.out.1) rfl ?_
        exact ⟨a8, c8, by rw [G.out.2.2.2]; rfl, G.out.2.1, G.out.2.2.1⟩
  · cases b7
    · cases TB
      · have E : OO = none := by
          rw [← EO.out]
          unfold leaO
          rw [HP.out]
          rw [if_neg (by rw [EP.out, H7.out]; simp), if_neg (by rw [EP.out]; simp), if_neg (by rw [ET.out]; simp)]
        have E : Hid (OO = none) := E
        have c7 := T0.out.pv.pbit (j := 7) rfl
        rw [H7.out] at c7
        have c9 := T0.out.pv.pbit (j := 9) rfl
        rw [H9.out] at c9
        have c10 := T0.out.pv.pbit (j := 10) rfl
        rw [H10.out] at c10
        have lt9 := T0.out.tre.var.tld
        obtain ⟨U, sU, h1, h2, gU⟩ := (T0.out.tre).tell (y := .slice (some ⟨g, o, none⟩) n c) rfl
        have G : Hid (RvAt U (w.heap.size + 1) 43 (trc h (.slice (some ⟨g, o, none⟩) n c)) ∧ SlAt U (some ⟨g, o, none⟩) n c (OO.getD l) ∧ Below w.heap.size w U ∧ OO.isSome = false) := by
          rw [E.out]
          exact ⟨h1, T0.out.sl.keptT (T0.out.tre).out gU, h2, rfl⟩
        clear h1 h2 gU
        go_wp2
        refine bodyPost_ret (results_tb Try.results34 _ _ _ _ _ rfl G.out.1) rfl ?_
        exact ⟨some ⟨g, o, none⟩, c, by rw [G.out.2.2.2]; rfl, G.out.2.1, G.out.2.2.1⟩
      · have E : OO = some (l.set k (lrnP p)) := by
          rw [← EO.out]
          unfold leaO
          rw [HP.out]
          rw [if_neg (by rw [EP.out, H7.out]; simp), if_neg (by rw [EP.out]; simp), if_pos ET.out]
        have E : Hid (OO = some (l.set k (lrnP p))) := E
        have c7 := T0.out.pv.pbit (j := 7) rfl
        rw [H7.out] at c7
        have c9 := T0.out.pv.pbit (j := 9) rfl
        rw [H9.out] at c9
        have c10 := T0.out.pv.pbit (j := 10) rfl
        rw [H10.out] at c10
        have lt9 := T0.out.tre.var.tld
        go_wp2_with fail
        refine (rlearns_in h (some ⟨g, o, none⟩) n c l k W0 T0.out.sl HL.out.2.1 HL.out.2.2.1).mono ?_
        rintro _ Y ⟨a8, c8, rfl, s8, b8⟩
        rw [HP.out] at s8
        obtain ⟨U, sU, h1, h2, gU⟩ := (T0.out.tre.below b8).tell (y := .slice a8 n c8) rfl
        have G : Hid (RvAt U (w.heap.size + 1) 43 (trc h (.slice a8 n c8)) ∧ SlAt U a8 n c8 (OO.getD l) ∧ Below w.heap.size w U ∧ OO.isSome = true) := by
          rw [E.out]
          exact ⟨h1, s8.keptT (T0.out.tre.below b8).out gU, h2, rfl⟩
        clear h1 h2 gU
        go_wp2
        refine bodyPost_ret (results_tb Try.results34 _ _ _ _ _ rfl G.out.1) rfl ?_
        exact ⟨a8, c8, by rw [G.out.2.2.2]; rfl, G.out.2.1, G.out.2.2.1⟩
    · have E : OO = some (sprL l k (detP h p)) := by
        rw [← EO.out]
        unfold leaO
        rw [HP.out]
        rw [if_pos (by rw [EP.out, H7.out]; simp)]
      have E : Hid (OO = some (sprL l k (detP h p))) := E
      have c7 := T0.out.pv.pbit (j := 7) rfl
      rw [H7.out] at c7
      have c9 := T0.out.pv.pbit (j := 9) rfl
      rw [H9.out] at c9
      have c10 := T0.out.pv.pbit (j := 10) rfl
      rw [H10.out] at c10
      have EL : Hid ((prpL (l.set k (nwP h p)) k).set k (actP (nwP h p)) = sprL l k (detP h p)) := by rw [set_three]; exact rfl
      have lt1_ := T0.out.tre.var.tld
      go_wp2_with fail
      refine (rnew_in h (some ⟨g, o, none⟩) n c l k W0 T0.out.sl HL.out.2.1 HL.out.2.2.1).mono ?_
      rintro _ X1 ⟨a1, c1, rfl, s1, f1, b1⟩
      rw [HP.out] at s1
      have K1 : Hid (TV w X1 w.heap.size (w.heap.size + 1) Z h (some ⟨g, o, none⟩) n c l p ∧ SlAt X1 a1 n c1 (l.set k (nwP h p))) := ⟨T0.out.below b1, s1⟩
      clear s1 f1 b1 lt1_ c7 c9 c10
      go_wp2_with fail
      refine (rprop_in h a1 n c1 _ k X1 K1.out.2 HL.out.2.1 HL.out.2.2.1).mono ?_
      rintro _ X2 ⟨a2, c2, rfl, s2, f2, b2⟩
      obtain ⟨g2, o2, rfl⟩ := s2.some' (by have := HL.out.2.2.1; omega)
      obtain ⟨Y2, y2, N2⟩ := K1.out.1.tree b2 s2 (Or.inr f2)
      have d16 := N2.tre.var.t16
      have lq := N2.sl.ld (gtP_at (l := prpL (l.set k (nwP h p)) k) (i := k) (by rw [prpL_len, List.length_set]; exact HL.out.2.2.2))
      rw [prp_at HL.out.2.2.2] at lq
      obtain ⟨R2, z2, M2⟩ := N2.st (nwP h p)
      obtain ⟨V1, e1, S1⟩ := M2.setB kb11 true
      obtain ⟨V2, e2, S2⟩ := S1.setN kn74 wi3
      have T9 : Hid (TV w V2 w.heap.size (w.heap.size + 1) Z h (some ⟨g2, o2, none⟩) n c2 (prpL (l.set k (nwP h p)) k) (actP (nwP h p))) := S2
      clear s2 f2 b2 N2 M2 S1 S2 K1
      have lt9 := T9.out.tre.var.tld
      have lp9 := T9.out.pv.pld
      go_wp2_with fail
      refine (with_any h (some ⟨g2, o2, none⟩) n c2 (prpL (l.set k (nwP h p)) k) k _ V2 T9.out.sl HL.out.2.1 HL.out.2.2.1).mono ?_
      rintro _ Y ⟨a8, c8, rfl, s8, f8, b8⟩
      rw [EL.out] at s8
      clear f8
      obtain ⟨U, sU, h1, h2, gU⟩ := (T9.out.tre.below b8).tell (y := .slice a8 n c8) rfl
      have G : Hid (RvAt U (w.heap.size + 1) 43 (trc h (.slice a8 n c8)) ∧ SlAt U a8 n c8 (OO.getD l) ∧ Below w.heap.size w U ∧ OO.isSome = true) := by
        rw [E.out]
        exact ⟨h1, s8.keptT (T9.out.tre.below b8).out gU, h2, rfl⟩
      clear h1 h2 gU
      go_wp2
      refine bodyPost_ret (results_tb Try.results34 _ _ _ _ _ rfl G.out.1) rfl ?_
      exact ⟨a8, c8, by rw [G.out.2.2.2]; rfl, G.out.2.1, G.out.2.2.1⟩
end Go.Proofs.Ytfjigbmhheekbaa
