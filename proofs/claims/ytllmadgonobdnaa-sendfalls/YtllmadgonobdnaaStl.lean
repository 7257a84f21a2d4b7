/-
  Steps of a port's version, at most six: the walk of settle, for every tree.
-/
import Derived.Test.YtllmadgonobdnaaLawP
namespace Go.Proofs.Ytllmadgonobdnaa
set_option linter.unusedVariables false
set_option maxRecDepth 4000
set_option linter.unusedSimpArgs false
open Go.RowKit

attribute [local go_sem ↓] ldP stP stB stU stW ldT stT alP
attribute [local go_sem] alP_run
theorem TS.st {w W : World} {h : Hd} {x : Value} (s : TS w W w.heap.size (w.heap.size + 1) h x) {y : Value} (hy : y.oneCell' = true) : ∃ V, (stS 31 (.pointer (some ⟨w.heap.size, 0, none⟩)) (.agg (trc h y))).run Try.prog W = .ok () V ∧ TS w V w.heap.size (w.heap.size + 1) h y ∧ W.grownBy V (some w.heap.size) := by
  obtain ⟨V, e, r, g⟩ := s.var.tst (g := h) (y := y) hy
  exact ⟨V, e, ⟨r, s.out.keptBut g (by simp), gro s.bel g (Nat.le_refl _) s.bel.size, s.hd⟩, g⟩
set_option maxHeartbeats 8000000 in
theorem settle_in (h : Hd) (a : Option Addr) (n c : Nat) (l : List Pt) (k : Nat) (w : World) (hs : SlAt w a n c l) (hn : n ≤ 1000) (hk : k < n) :
    Calls Try.prog 20 #[.agg (trc h (.slice a n c)), .int .i64 (k : Int)] w fun r w' => ∃ a' c', r = .returned (.agg (trc h (.slice a' n c'))) ∧ Fr w a a' ∧ SlAt w' a' n c' (setL 6 l k) ∧ Below w.heap.size w w' := by
  obtain ⟨S, hS⟩ : ∃ z, setL 6 l k = z := ⟨_, rfl⟩
  rw [hS]
  obtain ⟨W, hW, r0, r1, bW, zW⟩ := two_t w h (.slice a n c)
  have H : Hid (TS w W w.heap.size (w.heap.size + 1) h (.slice a n c) ∧ SlAt W a n c l ∧ setL 6 l k = S) := ⟨⟨r0, r1, bW, by omega⟩, hs.below bW, hS⟩
  have HK : Hid (k < n) := hk
  clear hs hk r0 r1 bW zW hS
  go_enter Try.func20, Try.ntmps20
  go_wp2_with fail
  go_loopw [5, 6, 7] (fun v5 v6 v7 wr => ∃ (j : Nat) (aj : Option Addr) (cj : Nat) (lj : List Pt), j ≤ 6 ∧ v5 = .int .i64 j ∧ TS w wr w.heap.size (w.heap.size + 1) h (.slice aj n cj) ∧ SlAt wr aj n cj lj ∧ setL (6 - j) lj k = S ∧ Fr w a aj) (fun v5 _ _ _ => 6 - (intOf v5).toNat)
  case atStart => exact ⟨0, a, c, l, by omega, rfl, H.out.1, H.out.2.1, H.out.2.2, Or.inl rfl⟩
  case round =>
    clear H hW
    obtain ⟨j, aj, cj, lj, hj, rfl, tj, sj, ej, frj⟩ := hrel
    have FJ : Hid (Fr w a aj) := frj
    have K : Hid (TS w wr w.heap.size (w.heap.size + 1) h (.slice aj n cj) ∧ SlAt wr aj n cj lj ∧ setL (6 - j) lj k = S) := ⟨tj, sj, ej⟩
    have lt := tj.var.tld
    clear tj sj ej frj
    by_cases hj6 : j < 6
    · have hji : (j : Int) < 6 := by omega
      go_wp2_with fail
      refine (ppm_new h aj n cj lj k wr K.out.2.1 hn HK.out).mono ?_
      rintro _ X ⟨a2, c2, rfl, f2, s2, b2⟩
      have F2 : Hid (Fr w a a2) := by
        rcases f2 with f2 | f2
        · rw [f2]; exact FJ.out
        · exact Or.inr fun x hx => Nat.le_trans K.out.1.bel.size (f2 x hx)
      clear f2
      cases hO : ppmO lj k with
      | none =>
        have es : lj = S := by rw [← K.out.2.2]; exact (setL_no hO).symm
        rw [hO] at s2
        simp only [Option.isSome_none]
        obtain ⟨Y, sY, tY, bY⟩ := TQ.new (w := w) (h := h) s2 (below_over K.out.1.bel b2)
        have T1 := (K.out.1.below b2).below bY
        have l9 := T1.var.tld
        obtain ⟨U, sU, h1, h2, gU⟩ := T1.tell (y := .slice aj n cj) rfl
        have G : Hid (RvAt U (w.heap.size + 1) 31 (trc h (.slice aj n cj)) ∧ SlAt U aj n cj S ∧ Below w.heap.size w U) := ⟨h1, by rw [← es]; exact ((K.out.2.1.below b2).below bY).keptT T1.out gU, h2⟩
        obtain ⟨i2, hi2⟩ : ∃ z, X.heap.size = z := ⟨_, rfl⟩
        rw [hi2] at sY
        clear s2 b2 tY bY T1 h1 h2 gU es hO lt
        go_wp2
        refine bodyPost_ret (results_row rtT Try.results20 _ _ _ _ rfl G.out.1 (trc_size _ _)) rfl ?_
        exact ⟨aj, cj, rfl, FJ.out, G.out.2⟩
      | some l2 =>
        have es : setL (6 - (j + 1)) l2 k = S := by
          rw [← K.out.2.2, show 6 - j = (6 - (j + 1)) + 1 by omega]
          exact (setL_yes hO).symm
        rw [hO] at s2
        simp only [Option.isSome_some]
        obtain ⟨Y, sY, tY, bY⟩ := TQ.new (w := w) (h := h) s2 (below_over K.out.1.bel b2)
        obtain ⟨i2, hi2⟩ : ∃ z, X.heap.size = z := ⟨_, rfl⟩
        rw [hi2] at sY tY
        have T1 := (K.out.1.below b2).below bY
        have c16 := T1.var.t16
        have d16 := tY.var.t16
        have l9 := tY.ld
        obtain ⟨U, sU, TU, gU⟩ := T1.st (y := .slice a2 n c2) rfl
        have J : Hid (TS w U w.heap.size (w.heap.size + 1) h (.slice a2 n c2) ∧ SlAt U a2 n c2 l2 ∧ setL (6 - (j + 1)) l2 k = S) := ⟨TU, tY.sl.keptT T1.var gU, es⟩
        clear s2 b2 tY bY T1 TU gU es hO lt K
        go_wp2
        go_roundw
        case rel => exact ⟨j + 1, a2, c2, l2, by omega, by go_num, J.out.1, J.out.2.1, J.out.2.2, F2.out⟩
        case measure => simp [intOf]; omega
    · have hji : ¬ (j : Int) < 6 := by omega
      have e6 : j = 6 := by omega
      subst e6
      have es : lj = S := K.out.2.2
      obtain ⟨U, sU, h1, h2, gU⟩ := K.out.1.tell (y := .slice aj n cj) rfl
      have G : Hid (RvAt U (w.heap.size + 1) 31 (trc h (.slice aj n cj)) ∧ SlAt U aj n cj S ∧ Below w.heap.size w U) := ⟨h1, by rw [← es]; exact K.out.2.1.keptT K.out.1.out gU, h2⟩
      clear h1 h2 gU es K
      go_wp2
      refine bodyPost_ret (results_row rtT Try.results20 _ _ _ _ rfl G.out.1 (trc_size _ _)) rfl ?_
      exact ⟨aj, cj, rfl, FJ.out, G.out.2⟩
end Go.Proofs.Ytllmadgonobdnaa
