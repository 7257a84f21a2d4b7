/-
  A step of which version a port speaks: the walk of Ppm, for every tree.
-/
import Derived.Test.YtllmadgonobdnaaTrn
import Derived.Test.YtllmadgonobdnaaRes
namespace Go.Proofs.Ytllmadgonobdnaa
set_option linter.unusedVariables false
set_option maxRecDepth 4000
set_option linter.unusedSimpArgs false
open Go.RowKit

attribute [local go_sem ↓] ldP stP stB stU stW ldT stT st32 alP
attribute [local go_sem] alP_run
/-- Sealed: a row of functions. -/
def bsF (n : Nat) (ps : Array (Nat × Value)) : Sem Value := Instr.buildSlice 74 n ps
theorem bsFs (n : Nat) (ps : Array (Nat × Value)) : Instr.buildSlice 74 n ps = bsF n ps := rfl
theorem bsF1 (f : Fn) (x y : Array Value) (w : World) : (bsF 1 #[(0, .func f x y)]).run Try.prog w = .ok (.slice (some ⟨w.heap.size, 0, none⟩) 1 1) (w.alloc (.cells #[.func f x y] 58)) := by kernel_rfl
theorem bsF2 (f g : Fn) (x y z u : Array Value) (w : World) : (bsF 2 #[(0, .func f x y), (1, .func g z u)]).run Try.prog w = .ok (.slice (some ⟨w.heap.size, 0, none⟩) 2 2) (w.alloc (.cells #[.func f x y, .func g z u] 58)) := by kernel_rfl
theorem new_fn (w : World) (cs : Array Value) : ∃ W, w.alloc (.cells cs 58) = W ∧ FnAt W w.heap.size cs ∧ Below w.heap.size w W :=
  ⟨_, rfl, RvAt.new w _ _, (Below.refl _ _).alloc (Nat.le_refl _) _⟩
theorem fnil_yes (w : World) : (binOp .eql 58 .nilFunc .nilFunc).run Try.prog w = .ok (.bool true) w := by kernel_rfl
theorem fnil_no (f : Fn) (x y : Array Value) (w : World) : (binOp .eql 58 (.func f x y) .nilFunc).run Try.prog w = .ok (.bool false) w := by kernel_rfl
attribute [local go_sem] fnil_yes fnil_no
attribute [local go_sem ↓] bsFs
set_option maxHeartbeats 2000000 in
theorem ppm_out (h : Hd) (a : Option Addr) (n c : Nat) (l : List Pt) (i : Int) (w : World) (hs : SlAt w a n c l) (hi : ¬ (0 ≤ i ∧ i < n)) :
    Calls Try.prog 10 #[.agg (trc h (.slice a n c)), .int .i64 i] w fun r w' => TBs w h n l none r w' := by
  obtain ⟨W, hW, r0, r1, bW, zW⟩ := two_t w h (.slice a n c)
  have l0 := r0.tld
  have H : Hid (TS w W w.heap.size (w.heap.size + 1) h (.slice a n c) ∧ SlAt W a n c l) := ⟨⟨r0, r1, bW, by omega⟩, hs.below bW⟩
  have T : Hid _ := there_out (h := h) (a := a) (c := c) (w := W) hi
  clear hs r0 r1 bW zW hi
  go_enter Try.func10, Try.ntmps10
  go_wp2_with fail
  refine Calls.mono T.out ?_
  rintro _ V ⟨rfl, bV⟩
  have lV := (H.out.1.below bV).var.tld
  obtain ⟨U, sU, h1, h2, gU⟩ := (H.out.1.below bV).tell (y := .slice a n c) rfl
  have G : Hid (RvAt U (w.heap.size + 1) 31 (trc h (.slice a n c)) ∧ SlAt U a n c l ∧ Below w.heap.size w U) := ⟨h1, (H.out.2.below bV).keptT (H.out.1.below bV).out gU, h2⟩
  clear h1 h2 gU bV l0 T
  go_wp2
  refine bodyPost_ret (results_tb Try.results10 _ _ _ _ _ rfl G.out.1) rfl ?_
  exact ⟨a, c, rfl, G.out.2⟩
set_option maxHeartbeats 4000000 in
theorem ppm_new (h : Hd) (a : Option Addr) (n c : Nat) (l : List Pt) (k : Nat) (w : World) (hs : SlAt w a n c l) (hn : n ≤ 1000) (hk : k < n) :
    Calls Try.prog 10 #[.agg (trc h (.slice a n c)), .int .i64 (k : Int)] w fun r w' => TBf w h a n l (ppmO l k) r w' := by
  obtain ⟨OO, hOO⟩ : ∃ z, ppmO l k = z := ⟨_, rfl⟩
  rw [hOO]
  have EO : Hid (ppmO l k = OO) := hOO
  clear hOO
  obtain ⟨g, o, rfl⟩ := hs.some' (by omega)
  have HL : Hid (l.length = n ∧ n ≤ 1000 ∧ k < n) := ⟨hs.len, hn, hk⟩
  have hkl : k < l.length := by rw [HL.out.1]; exact hk
  have hin0 : (0 : Int) ≤ (k : Int) := by omega
  have hin1 : (k : Int) < (n : Int) := by omega
  obtain ⟨W, hW, r0, r1, bW, zW⟩ := two_t w h (.slice (some ⟨g, o, none⟩) n c)
  have l0 := r0.tld
  have H : Hid (TS w W w.heap.size (w.heap.size + 1) h (.slice (some ⟨g, o, none⟩) n c) ∧ SlAt W (some ⟨g, o, none⟩) n c l) := ⟨⟨r0, r1, bW, by omega⟩, hs.below bW⟩
  have T : Hid _ := there_in (h := h) (a := some ⟨g, o, none⟩) (c := c) (w := W) hk
  obtain ⟨p, hp⟩ : ∃ p, gtP l k = p := ⟨_, rfl⟩
  have HP : Hid (gtP l k = p) := hp
  have HK : Hid (k < l.length) := hkl
  clear hs hn hk r0 r1 bW zW hp hkl
  go_enter Try.func10, Try.ntmps10
  go_wp2_with fail
  refine Calls.mono T.out ?_
  rintro _ V ⟨rfl, bV⟩
  have K : Hid (TS w V w.heap.size (w.heap.size + 1) h (.slice (some ⟨g, o, none⟩) n c) ∧ SlAt V (some ⟨g, o, none⟩) n c l) := ⟨H.out.1.below bV, H.out.2.below bV⟩
  have c16 := K.out.1.var.t16
  have lp := K.out.2.ld (gtP_at HK.out)
  rw [HP.out] at lp
  clear bV T l0 hW H
  go_wp2_with fail
  refine (turn_any p V).mono ?_
  rintro _ X ⟨rfl, bX⟩
  have L : Hid (TS w X w.heap.size (w.heap.size + 1) h (.slice (some ⟨g, o, none⟩) n c) ∧ SlAt X (some ⟨g, o, none⟩) n c l) := ⟨K.out.1.below bX, K.out.2.below bX⟩
  have lt := L.out.1.var.tld
  clear bX K lp c16
  obtain ⟨C, hC⟩ : ∃ z, ppmC p = z := ⟨_, rfl⟩
  have hle := ppm_le p
  rw [hC] at hle ⊢
  have HC : Hid (ppmC p = C) := hC
  clear hC
  rcases hle with rfl | rfl | rfl | rfl
  · have E : OO = none := by rw [← EO.out]; exact ppmO_no (by rw [HP.out]; exact HC.out)
    subst E
    clear EO
    obtain ⟨U, sU, h1, h2, gU⟩ := L.out.1.tell (y := .slice (some ⟨g, o, none⟩) n c) rfl
    have G : Hid (RvAt U (w.heap.size + 1) 31 (trc h (.slice (some ⟨g, o, none⟩) n c)) ∧ SlAt U (some ⟨g, o, none⟩) n c l ∧ Below w.heap.size w U) := ⟨h1, L.out.2.keptT L.out.1.out gU, h2⟩
    clear h1 h2 gU
    rw [show turV 0 = .nilFunc from rfl]
    go_wp2
    refine bodyPost_ret (results_tb Try.results10 _ _ _ _ _ rfl G.out.1) rfl ?_
    exact ⟨some ⟨g, o, none⟩, c, rfl, Or.inl rfl, G.out.2⟩
  · have E : OO = some (l.set k (chkP p)) := by rw [← EO.out, ppmO_yes (c := 1) (by rw [HP.out]; exact HC.out) (by decide), HP.out]; rfl
    subst E
    clear EO
    rw [show turV 1 = fv 41 from rfl]
    obtain ⟨Y, hY, fY, bY⟩ := new_fn X #[fv 41]
    have qY := bsF1 (.func 41) #[] #[] X
    rw [hY] at qY
    have Q : Hid (TS w Y w.heap.size (w.heap.size + 1) h (.slice (some ⟨g, o, none⟩) n c) ∧ SlAt Y (some ⟨g, o, none⟩) n c l ∧ FnAt Y X.heap.size #[fv 41]) := ⟨L.out.1.below bY, L.out.2.below bY, fY⟩
    clear fY bY hY
    go_wp2_with fail
    refine (put1_new 41 chkP chg_check ent_check h (some ⟨g, o, none⟩) n c l k X.heap.size Y Q.out.2.1 HL.out.2.1 HL.out.2.2 Q.out.2.2).mono ?_
    rintro _ X2 ⟨g2, c2, rfl, f2, s2, b2⟩
    rw [HP.out] at s2
    obtain ⟨U, sU, h1, h2, gU⟩ := (Q.out.1.below b2).tell (y := .slice (some ⟨g2, 0, none⟩) n c2) rfl
    have G : Hid (RvAt U (w.heap.size + 1) 31 (trc h (.slice (some ⟨g2, 0, none⟩) n c2)) ∧ SlAt U (some ⟨g2, 0, none⟩) n c2 (l.set k (chkP p)) ∧ Below w.heap.size w U) := ⟨h1, s2.keptT (Q.out.1.below b2).out gU, h2⟩
    have FR : Hid (w.heap.size ≤ g2) := Nat.le_trans Q.out.1.bel.size f2
    clear h1 h2 gU s2 b2 f2
    go_wp2
    refine bodyPost_ret (results_tb Try.results10 _ _ _ _ _ rfl G.out.1) rfl ?_
    exact ⟨some ⟨g2, 0, none⟩, c2, rfl, Or.inr (fun x hx => by cases hx; exact FR.out), G.out.2⟩
  · have E : OO = some (l.set k (senP p)) := by rw [← EO.out, ppmO_yes (c := 2) (by rw [HP.out]; exact HC.out) (by decide), HP.out]; rfl
    subst E
    clear EO
    rw [show turV 2 = fv 42 from rfl]
    obtain ⟨Y, hY, fY, bY⟩ := new_fn X #[fv 42]
    have qY := bsF1 (.func 42) #[] #[] X
    rw [hY] at qY
    have Q : Hid (TS w Y w.heap.size (w.heap.size + 1) h (.slice (some ⟨g, o, none⟩) n c) ∧ SlAt Y (some ⟨g, o, none⟩) n c l ∧ FnAt Y X.heap.size #[fv 42]) := ⟨L.out.1.below bY, L.out.2.below bY, fY⟩
    clear fY bY hY
    go_wp2_with fail
    refine (put1_new 42 senP chg_sense ent_sense h (some ⟨g, o, none⟩) n c l k X.heap.size Y Q.out.2.1 HL.out.2.1 HL.out.2.2 Q.out.2.2).mono ?_
    rintro _ X2 ⟨g2, c2, rfl, f2, s2, b2⟩
    rw [HP.out] at s2
    obtain ⟨U, sU, h1, h2, gU⟩ := (Q.out.1.below b2).tell (y := .slice (some ⟨g2, 0, none⟩) n c2) rfl
    have G : Hid (RvAt U (w.heap.size + 1) 31 (trc h (.slice (some ⟨g2, 0, none⟩) n c2)) ∧ SlAt U (some ⟨g2, 0, none⟩) n c2 (l.set k (senP p)) ∧ Below w.heap.size w U) := ⟨h1, s2.keptT (Q.out.1.below b2).out gU, h2⟩
    have FR : Hid (w.heap.size ≤ g2) := Nat.le_trans Q.out.1.bel.size f2
    clear h1 h2 gU s2 b2 f2
    go_wp2
    refine bodyPost_ret (results_tb Try.results10 _ _ _ _ _ rfl G.out.1) rfl ?_
    exact ⟨some ⟨g2, 0, none⟩, c2, rfl, Or.inr (fun x hx => by cases hx; exact FR.out), G.out.2⟩
  · have E : OO = some (l.set k (falP p)) := by rw [← EO.out, ppmO_yes (c := 3) (by rw [HP.out]; exact HC.out) (by decide), HP.out]; rfl
    subst E
    clear EO
    rw [show turV 3 = fv 43 from rfl]
    obtain ⟨Y, hY, fY, bY⟩ := new_fn X #[fv 43]
    have qY := bsF1 (.func 43) #[] #[] X
    rw [hY] at qY
    have Q : Hid (TS w Y w.heap.size (w.heap.size + 1) h (.slice (some ⟨g, o, none⟩) n c) ∧ SlAt Y (some ⟨g, o, none⟩) n c l ∧ FnAt Y X.heap.size #[fv 43]) := ⟨L.out.1.below bY, L.out.2.below bY, fY⟩
    clear fY bY hY
    go_wp2_with fail
    refine (put1_new 43 falP chg_fall ent_fallBack h (some ⟨g, o, none⟩) n c l k X.heap.size Y Q.out.2.1 HL.out.2.1 HL.out.2.2 Q.out.2.2).mono ?_
    rintro _ X2 ⟨g2, c2, rfl, f2, s2, b2⟩
    rw [HP.out] at s2
    obtain ⟨U, sU, h1, h2, gU⟩ := (Q.out.1.below b2).tell (y := .slice (some ⟨g2, 0, none⟩) n c2) rfl
    have G : Hid (RvAt U (w.heap.size + 1) 31 (trc h (.slice (some ⟨g2, 0, none⟩) n c2)) ∧ SlAt U (some ⟨g2, 0, none⟩) n c2 (l.set k (falP p)) ∧ Below w.heap.size w U) := ⟨h1, s2.keptT (Q.out.1.below b2).out gU, h2⟩
    have FR : Hid (w.heap.size ≤ g2) := Nat.le_trans Q.out.1.bel.size f2
    clear h1 h2 gU s2 b2 f2
    go_wp2
    refine bodyPost_ret (results_tb Try.results10 _ _ _ _ _ rfl G.out.1) rfl ?_
    exact ⟨some ⟨g2, 0, none⟩, c2, rfl, Or.inr (fun x hx => by cases hx; exact FR.out), G.out.2⟩
theorem ppm_in (h : Hd) (a : Option Addr) (n c : Nat) (l : List Pt) (k : Nat) (w : World) (hs : SlAt w a n c l) (hn : n ≤ 1000) (hk : k < n) :
    Calls Try.prog 10 #[.agg (trc h (.slice a n c)), .int .i64 (k : Int)] w fun r w' => TBs w h n l (ppmO l k) r w' :=
  (ppm_new h a n c l k w hs hn hk).mono fun r w' ⟨a', c', hr, _, h2, h3⟩ => ⟨a', c', hr, h2, h3⟩
theorem ppm_any (h : Hd) (a : Option Addr) (n c : Nat) (l : List Pt) (i : Int) (w : World) (hs : SlAt w a n c l) (hn : n ≤ 1000) :
    Calls Try.prog 10 #[.agg (trc h (.slice a n c)), .int .i64 i] w fun r w' => TBs w h n l (ppmI l i) r w' := by
  by_cases hi : 0 ≤ i ∧ i < (n : Int)
  · obtain ⟨k, rfl⟩ : ∃ k : Nat, i = (k : Int) := ⟨i.toNat, by omega⟩
    rw [ppmI_in (by rw [hs.len]; omega)]
    exact ppm_in h a n c l k w hs hn (by omega)
  · rw [ppmI_out (by rw [hs.len]; exact hi)]
    exact ppm_out h a n c l i w hs hi
end Go.Proofs.Ytllmadgonobdnaa
