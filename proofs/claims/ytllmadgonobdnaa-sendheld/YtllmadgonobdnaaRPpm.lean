/-
  The definition: a step of which version a port speaks: the walk of Ppm, for every tree.
-/
import Derived.Test.YtllmadgonobdnaaROne
import Derived.Test.YtllmadgonobdnaaRes
import Derived.Test.YtllmadgonobdnaaSym
namespace Go.Proofs.Ytllmadgonobdnaa
set_option linter.unusedVariables false
set_option maxRecDepth 4000
set_option linter.unusedSimpArgs false
open Go.RowKit

attribute [local go_sem ↓] ldP stP stB stU stW ldT stT st32 alP
attribute [local go_sem] alP_run
theorem has_in {h : Hd} {a : Option Addr} {n c k : Nat} {w : World} (hn : n ≤ 1000) (hk : k < n) :
    Calls Try.prog 18 #[.agg (trc h (.slice a n c)), .int .i64 (k : Int)] w fun r w' => r = .returned (.bool true) ∧ Below w.heap.size w w' :=
  (has_any h a n c k w hn).mono fun r w' ⟨hr, hb⟩ => ⟨by rw [hr]; simp; omega, hb⟩
theorem has_out {h : Hd} {a : Option Addr} {n c : Nat} {i : Int} {w : World} (hn : n ≤ 1000) (hk : ¬ (0 ≤ i ∧ i < n)) :
    Calls Try.prog 18 #[.agg (trc h (.slice a n c)), .int .i64 i] w fun r w' => r = .returned (.bool false) ∧ Below w.heap.size w w' :=
  (has_any h a n c i w hn).mono fun r w' ⟨hr, hb⟩ => ⟨by rw [hr]; simp; omega, hb⟩
set_option maxHeartbeats 2000000 in
theorem rppm_out (h : Hd) (a : Option Addr) (n c : Nat) (l : List Pt) (i : Int) (w : World) (hs : SlAt w a n c l) (hn : n ≤ 1000) (hi : ¬ (0 ≤ i ∧ i < n)) :
    Calls Try.prog 11 #[.agg (trc h (.slice a n c)), .int .i64 i] w fun r w' => TBs w h n l none r w' := by
  obtain ⟨W, hW, r0, r1, bW, zW⟩ := two_t w h (.slice a n c)
  have l0 := r0.tld
  have H : Hid (TS w W w.heap.size (w.heap.size + 1) h (.slice a n c) ∧ SlAt W a n c l) := ⟨⟨r0, r1, bW, by omega⟩, hs.below bW⟩
  have T : Hid _ := has_out (h := h) (a := a) (c := c) (w := W) hn hi
  clear hs r0 r1 bW zW hi
  go_enter Try.func11, Try.ntmps11
  go_wp2_with fail
  refine Calls.mono T.out ?_
  rintro _ V ⟨rfl, bV⟩
  have lV := (H.out.1.below bV).var.tld
  obtain ⟨U, sU, h1, h2, gU⟩ := (H.out.1.below bV).tell (y := .slice a n c) rfl
  have G : Hid (RvAt U (w.heap.size + 1) 31 (trc h (.slice a n c)) ∧ SlAt U a n c l ∧ Below w.heap.size w U) := ⟨h1, (H.out.2.below bV).keptT (H.out.1.below bV).out gU, h2⟩
  clear h1 h2 gU bV l0 T
  go_wp2
  refine bodyPost_ret (results_tb Try.results11 _ _ _ _ _ rfl G.out.1) rfl ?_
  exact ⟨a, c, rfl, G.out.2⟩
set_option maxHeartbeats 4000000 in
theorem rppm_in (h : Hd) (a : Option Addr) (n c : Nat) (l : List Pt) (k : Nat) (w : World) (hs : SlAt w a n c l) (hn : n ≤ 1000) (hk : k < n) :
    Calls Try.prog 11 #[.agg (trc h (.slice a n c)), .int .i64 (k : Int)] w fun r w' => TBs w h n l (ppmO l k) r w' := by
  obtain ⟨OO, hOO⟩ : ∃ z, ppmO l k = z := ⟨_, rfl⟩
  rw [hOO]
  have EO : Hid (ppmO l k = OO) := hOO
  clear hOO
  obtain ⟨g, o, rfl⟩ := hs.some' (by omega)
  have HL : Hid (l.length = n ∧ n ≤ 1000 ∧ k < n) := ⟨hs.len, hn, hk⟩
  have hkl : k < l.length := by rw [HL.out.1]; exact hk
  have hin0 : (0 : Int) ≤ (k : Int) := by omega
  have hin1 : (k : Int) < (n : Int) := by omega
  obtain ⟨W, hW, r0, r1, bW, zW⟩ := two_t w h (.slice (some ⟨g, o, none⟩) n c)
  have l0 := r0.tld
  have H : Hid (TS w W w.heap.size (w.heap.size + 1) h (.slice (some ⟨g, o, none⟩) n c) ∧ SlAt W (some ⟨g, o, none⟩) n c l) := ⟨⟨r0, r1, bW, by omega⟩, hs.below bW⟩
  have T : Hid _ := has_in (h := h) (a := some ⟨g, o, none⟩) (c := c) (w := W) hn hk
  obtain ⟨p, hp⟩ : ∃ p, gtP l k = p := ⟨_, rfl⟩
  have HP : Hid (gtP l k = p) := hp
  have HK : Hid (k < l.length) := hkl
  clear hs hn hk r0 r1 bW zW hp hkl
  go_enter Try.func11, Try.ntmps11
  go_wp2_with fail
  refine Calls.mono T.out ?_
  rintro _ V ⟨rfl, bV⟩
  have K : Hid (TS w V w.heap.size (w.heap.size + 1) h (.slice (some ⟨g, o, none⟩) n c) ∧ SlAt V (some ⟨g, o, none⟩) n c l) := ⟨H.out.1.below bV, H.out.2.below bV⟩
  have c16 := K.out.1.var.t16
  have lp := K.out.2.ld (gtP_at HK.out)
  rw [HP.out] at lp
  clear bV T l0 hW H
  go_wp2_with fail
  refine (one_any p V).mono ?_
  rintro _ X ⟨rfl, bX⟩
  obtain ⟨Q, hQ⟩ : ∃ z, ppmQ p (ppmC p) = z := ⟨_, rfl⟩
  rw [hQ]
  obtain ⟨Y, sY, rY, bY, zY⟩ := var_p X Q
  have L : Hid (TS w Y w.heap.size (w.heap.size + 1) h (.slice (some ⟨g, o, none⟩) n c) ∧ SlAt Y (some ⟨g, o, none⟩) n c l ∧ RvAt Y X.heap.size 53 Q.cs) := ⟨(K.out.1.below bX).below bY, (K.out.2.below bX).below bY, rY⟩
  have lt := L.out.1.var.tld
  have lq := L.out.2.2.pld
  have HQ : Hid (ppmQ p (ppmC p) = Q) := hQ
  clear bX bY rY zY K lp c16 hQ
  by_cases h0 : ppmC p = 0
  · have E : OO = none := by rw [← EO.out]; exact ppmO_no (by rw [HP.out]; exact h0)
    subst E
    clear EO
    have e0 : decide (ppmC p ≠ 0) = false := by rw [h0]; rfl
    rw [e0]
    clear e0 h0 HQ
    obtain ⟨U, sU, h1, h2, gU⟩ := L.out.1.tell (y := .slice (some ⟨g, o, none⟩) n c) rfl
    have G : Hid (RvAt U (w.heap.size + 1) 31 (trc h (.slice (some ⟨g, o, none⟩) n c)) ∧ SlAt U (some ⟨g, o, none⟩) n c l ∧ Below w.heap.size w U) := ⟨h1, L.out.2.1.keptT L.out.1.out gU, h2⟩
    clear h1 h2 gU lq
    go_wp2
    refine bodyPost_ret (results_tb Try.results11 _ _ _ _ _ rfl G.out.1) rfl ?_
    exact ⟨some ⟨g, o, none⟩, c, rfl, G.out.2⟩
  · have E : OO = some (l.set k Q) := by rw [← EO.out, ppmO_yes rfl (by rw [HP.out]; exact h0), HP.out, HQ.out]
    subst E
    clear EO
    have e0 : decide (ppmC p ≠ 0) = true := by simpa using h0
    rw [e0]
    clear e0 h0 HQ
    go_wp2_with fail
    refine (with_any h (some ⟨g, o, none⟩) n c l k Q Y L.out.2.1 HL.out.2.1 HL.out.2.2).mono ?_
    rintro _ X2 ⟨g2, c2, rfl, f2, s2, b2⟩
    obtain ⟨U, sU, h1, h2, gU⟩ := (L.out.1.below b2).tell (y := .slice (some ⟨g2, 0, none⟩) n c2) rfl
    have G : Hid (RvAt U (w.heap.size + 1) 31 (trc h (.slice (some ⟨g2, 0, none⟩) n c2)) ∧ SlAt U (some ⟨g2, 0, none⟩) n c2 (l.set k Q) ∧ Below w.heap.size w U) := ⟨h1, s2.keptT (L.out.1.below b2).out gU, h2⟩
    clear h1 h2 gU s2 b2 f2
    go_wp2
    refine bodyPost_ret (results_tb Try.results11 _ _ _ _ _ rfl G.out.1) rfl ?_
    exact ⟨some ⟨g2, 0, none⟩, c2, rfl, G.out.2⟩
theorem rppm_any (h : Hd) (a : Option Addr) (n c : Nat) (l : List Pt) (i : Int) (w : World) (hs : SlAt w a n c l) (hn : n ≤ 1000) :
    Calls Try.prog 11 #[.agg (trc h (.slice a n c)), .int .i64 i] w fun r w' => TBs w h n l (ppmI l i) r w' := by
  by_cases hi : 0 ≤ i ∧ i < (n : Int)
  · obtain ⟨k, rfl⟩ : ∃ k : Nat, i = (k : Int) := ⟨i.toNat, by omega⟩
    rw [ppmI_in (by rw [hs.len]; omega)]
    exact rppm_in h a n c l k w hs hn (by omega)
  · rw [ppmI_out (by rw [hs.len]; exact hi)]
    exact rppm_out h a n c l i w hs hn hi
end Go.Proofs.Ytllmadgonobdnaa
