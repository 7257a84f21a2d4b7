/-
  The definition's Step: its walk, for every tree.
-/
import Derived.Test.YtnblhmicbhblpaaRSel
import Derived.Test.YtnblhmicbhblpaaStp
namespace Go.Proofs.Ytnblhmicbhblpaa
set_option linter.unusedVariables false
set_option maxRecDepth 4000
set_option linter.unusedSimpArgs false
open Go.RowKit

theorem map_next {f : Pt → Pt} {l : List Pt} {i : Nat} (h : i < l.length) : (l.take (i + 1)).map f = (l.take i).map f ++ [f (gtP l i)] := by
  rw [List.take_add_one, gtP_at h]
  simp
attribute [local go_sem ↓] ldP stP ldT stT st32 stB st49 bs32 apE alP
attribute [local go_sem] alP_run
set_option maxHeartbeats 8000000 in
theorem rstep_any (h : Hd) (a : Option Addr) (n c : Nat) (l : List Pt) (w : World) (hs : SlAt w a n c l) (hn : n ≤ 1000) :
    Calls Try.prog 17 #[.agg (trc h (.slice a n c))] w fun r w' => ∃ a' c', r = .returned (.tuple #[.agg (trc (stpH h l) (.slice a' n c')), .bool (stpB h l)]) ∧ SlAt w' a' n c' (stpL h l) ∧ Below w.heap.size w w' := by
  obtain ⟨W, hW, r0, r1, bW, zW⟩ := two_t w h (.slice a n c)
  have c6 := r0.tbit (j := 6) rfl
  have H : Hid (QA w W h a n c l ∧ SlAt w a n c l ∧ l.length = n ∧ W.heap.size = w.heap.size + 2) := ⟨⟨⟨r0, r1, bW⟩, hs.below bW⟩, hs, hs.len, zW⟩
  clear hs r0 r1 bW zW
  cases h6 : h.bt 6
  · have e : stpB h l = true := by unfold stpB; rw [h6]; rfl
    rw [e, (stp_yes e).1, (stp_yes e).2, ← (no_all (h.setB 6 kh6 true) l).1, ← (no_all (h.setB 6 kh6 true) l).2]
    rw [h6] at c6
    clear e h6
    obtain ⟨h', hh'⟩ : ∃ h', h.setB 6 kh6 true = h' := ⟨_, rfl⟩
    obtain ⟨V, sV, rV, gV⟩ := H.out.1.q.var.tsetB true
    rw [hh'] at rV ⊢
    have Q0 : Hid (QS w V h' (.slice a n c) ∧ w.heap.size + 2 ≤ V.heap.size) := ⟨H.out.1.q.go rV gV, by have := gV.size; have := H.out.2.2.2; omega⟩
    obtain ⟨lN, hlN⟩ : ∃ z, l.map noP = z := ⟨_, rfl⟩
    rw [hlN]
    have LN : Hid (lN = l.map noP) := hlN.symm
    clear hlN hh' rV gV
    obtain ⟨B, hB⟩ : ∃ B, w.heap.size + 2 = B := ⟨_, rfl⟩
    go_enter Try.func17, Try.ntmps17
    go_wp2_with fail
    clear sV c6 hW
    go_loopw [4, 5] (fun v4 v5 wr => ∃ i : Nat, i ≤ n ∧ v5 = .int .i64 i ∧ Own wr B v4 ((l.take i).map noP) ∧ QS w wr h' (.slice a n c) ∧ B ≤ wr.heap.size) (fun _ v5 _ => n - (intOf v5).toNat)
    case atStart => exact ⟨0, by omega, rfl, Own.nil _ _, Q0.out.1, by rw [← hB]; exact Q0.out.2⟩
    case round =>
      obtain ⟨i, hi, rfl, hO, hQ, hBw⟩ := hrel
      have hin0 : (0 : Int) ≤ (i : Int) := by omega
      have d16 := hQ.var.t16
      by_cases hit : i < n
      · have hin1 : (i : Int) < (n : Int) := by omega
        have hil : i < l.length := by rw [H.out.2.2.1]; exact hit
        obtain ⟨bs, os, eo⟩ := (H.out.2.1.below hQ.bel).some' (by omega)
        have hat := gtP_at hil
        have lp : (ldS 47 (.pointer (some ⟨bs, os + i * 77, none⟩))).run Try.prog wr = .ok (.agg (gtP l i).cs) wr := by
          have h5 := H.out.2.1.below hQ.bel
          rw [eo] at h5
          exact h5.ld hat
        rw [eo] at d16 hQ
        have hnx := map_next (f := noP) hil
        obtain ⟨p, hp⟩ : ∃ p, gtP l i = p := ⟨_, rfl⟩
        rw [hp] at lp hnx
        obtain ⟨Y0, y0, N0⟩ := PN.new wr p
        obtain ⟨pb, hpb⟩ : ∃ z, wr.heap.size = z := ⟨_, rfl⟩
        rw [hpb] at y0 N0
        obtain ⟨Y1, y1, N1⟩ := N0.setN (t := 41) infoR kn31 wi0
        change PN wr Y1 pb (noP p) at N1
        obtain ⟨s, hs⟩ : ∃ s, noP p = s := ⟨_, rfl⟩
        rw [hs] at N1 hnx
        have l7 := N1.var.pld
        have hB7 : B ≤ Y1.heap.size := Nat.le_trans hBw N1.bel.size
        obtain ⟨v', Y8, ap, o8, b8⟩ := (hO.below N1.bel).next hB7 (by simp; omega) s
        have bs7 := bsP_is s Y1
        have S8 := hQ.below N1.bel
        have Z : Hid (Own Y8 B v' ((l.take (i + 1)).map noP) ∧ QS w Y8 h' (.slice a n c) ∧ B ≤ Y8.heap.size) := by
          refine ⟨by rw [hnx]; exact o8, ?_, Nat.le_trans hB7 b8.size⟩
          rw [eo]
          exact ⟨S8.var.belowB b8 (by omega), S8.out.belowB b8 (by omega), S8.bel.trans (b8.mono (by omega))⟩
        clear N0 N1 o8 b8 S8 hO hQ hBw hnx hat hp hs hB7 eo
        go_wp2
        go_roundw
        case rel => exact ⟨i + 1, by omega, by go_num, Z.out.1, Z.out.2.1, Z.out.2.2⟩
        case measure => simp [intOf]; omega
      · have hin : i = n := by omega
        subst hin
        have hin1 : ¬ (i : Int) < (i : Int) := by omega
        rw [List.take_of_length_le (by rw [H.out.2.2.1]; omega), ← LN.out] at hO
        have hlS : lN.length = i := by rw [LN.out, List.length_map, H.out.2.2.1]
        obtain ⟨a', c', hx, pa, hga⟩ := PA.of hO
        rw [hlS] at hx pa
        subst hx
        obtain ⟨X2, t2, rX2, gX2⟩ := hQ.var.tset (y := .slice a' i c') rfl
        have S2 : Hid (QS w X2 h' (.slice a' i c')) := hQ.go rX2 gX2
        have sl2 := pa.sl.keptT hQ.var gX2
        have lX := S2.out.var.tld
        have C : Hid _ := rselect_any h' a' i c' lN X2 sl2 hn
        clear hO hQ hBw pa hga rX2 gX2 sl2 hlS
        go_wp2_with fail
        refine Calls.mono C.out ?_
        rintro _ X3 ⟨a2, c2, rfl, s3, b3⟩
        have K := S2.out.below b3
        obtain ⟨U, sU, rU, gU⟩ := K.out.tst (g := hdS h' lN) (y := .slice a2 i c2) rfl
        have F : Hid (RvAt U (w.heap.size + 1) 31 (trc (hdS h' lN) (.slice a2 i c2)) ∧ SlAt U a2 i c2 (selL h' lN) ∧ Below w.heap.size w U) := ⟨rU, s3.keptT K.out gU, gro K.bel gU (by omega) K.bel.size⟩
        clear K rU gU s3 b3 C S2 lX t2 d16
        go_wp2_with (with_reducible exact ret_tb Try.results17 (by with_unfolding_all rfl) (by with_unfolding_all rfl) (by with_unfolding_all rfl) F.out.1 ⟨a2, c2, rfl, F.out.2.1, F.out.2.2⟩)
  · rw [h6] at c6
    have EY : Hid (anyR l = true → stpB h l = true ∧ stpH h l = hdS h l ∧ stpL h l = selL h l) := fun ha => by
      have e : stpB h l = true := by unfold stpB; rw [ha]; simp
      refine ⟨e, ?_, ?_⟩
      · rw [(stp_yes e).1, setB_self _ kh6 h6]
      · rw [(stp_yes e).2, setB_self _ kh6 h6]
    have EN : Hid (anyR l = false → stpB h l = false ∧ stpH h l = h ∧ stpL h l = l) := fun ha => stp_no h6 ha
    clear h6
    obtain ⟨B0, hB0⟩ : ∃ z, stpB h l = z := ⟨_, rfl⟩
    obtain ⟨h0, hh0⟩ : ∃ z, stpH h l = z := ⟨_, rfl⟩
    obtain ⟨l0, hl0⟩ : ∃ z, stpL h l = z := ⟨_, rfl⟩
    rw [hB0, hh0, hl0] at EY EN ⊢
    clear hB0 hh0 hl0
    go_enter Try.func17, Try.ntmps17
    go_wp2_with fail
    clear c6 hW
    go_loopw [7] (fun v7 wr => ∃ i : Nat, i ≤ n ∧ v7 = .int .i64 i ∧ (∀ j, j < i → (gtP l j).bt 21 = false) ∧ QA w wr h a n c l) (fun v7 _ => n - (intOf v7).toNat)
    case atStart => exact ⟨0, by omega, rfl, fun j hj => by omega, H.out.1⟩
    case round =>
      obtain ⟨i, hi, rfl, ht, hQ⟩ := hrel
      have hin0 : (0 : Int) ≤ (i : Int) := by omega
      have d16 := hQ.q.var.t16
      have J : Hid ((∀ j, j < i → (gtP l j).bt 21 = false) ∧ QA w wr h a n c l) := ⟨ht, hQ⟩
      by_cases hit : i < n
      · have hin1 : (i : Int) < (n : Int) := by omega
        have hil : i < l.length := by rw [H.out.2.2.1]; exact hit
        obtain ⟨b, o, rfl⟩ := hQ.sl.some' (by omega)
        have c21 := hQ.sl.cell (gtP_at hil) ((gtP l i).bit (j := 21) rfl) (by omega)
        have HIL : Hid (i < l.length) := hil
        cases hb : (gtP l i).bt 21
        · rw [hb] at c21
          have N : Hid (∀ j, j < i + 1 → (gtP l j).bt 21 = false) := fun j hj => by
            by_cases hji : j = i
            · subst hji; exact hb
            · exact ht j (by omega)
          clear ht hQ hb hil
          go_wp2
          go_roundw
          case rel => exact ⟨i + 1, by omega, by go_num, N.out, J.out.2⟩
          case measure => simp [intOf]; omega
        · rw [hb] at c21
          obtain ⟨rfl, rfl, rfl⟩ := EY.out (any_yes hil hb)
          have lt := hQ.q.var.tld
          have C : Hid _ := rselect_any h (some ⟨b, o, none⟩) n c l wr hQ.sl hn
          clear ht hQ hb hil
          go_wp2_with fail
          refine Calls.mono C.out ?_
          rintro _ X3 ⟨a2, c2, rfl, s3, b3⟩
          have K := (J.out.2.below b3).q
          obtain ⟨U, sU, rU, gU⟩ := K.out.tst (g := hdS h l) (y := .slice a2 n c2) rfl
          have F : Hid (RvAt U (w.heap.size + 1) 31 (trc (hdS h l) (.slice a2 n c2)) ∧ SlAt U a2 n c2 (selL h l) ∧ Below w.heap.size w U) := ⟨rU, s3.keptT K.out gU, gro K.bel gU (by omega) K.bel.size⟩
          clear K rU gU s3 b3 C lt d16 c21
          go_wp2_with (with_reducible exact ret_tb Try.results17 (by with_unfolding_all rfl) (by with_unfolding_all rfl) (by with_unfolding_all rfl) F.out.1 ⟨a2, c2, rfl, F.out.2.1, F.out.2.2⟩)
      · have hin : i = n := by omega
        subst hin
        have hin1 : ¬ (i : Int) < (i : Int) := by omega
        obtain ⟨rfl, rfl, rfl⟩ := EN.out (any_no (fun j hj => ht j (by rw [← H.out.2.2.1]; exact hj)))
        have lt := hQ.q.var.tld
        obtain ⟨U, sU, rU, gU⟩ := hQ.q.out.tst (g := h0) (y := .slice a i c) rfl
        have F : Hid (RvAt U (w.heap.size + 1) 31 (trc h0 (.slice a i c)) ∧ SlAt U a i c l0 ∧ Below w.heap.size w U) := ⟨rU, hQ.sl.keptT hQ.q.out gU, gro hQ.q.bel gU (by omega) hQ.q.bel.size⟩
        clear rU gU ht hQ
        go_wp2_with (with_reducible exact ret_tb Try.results17 (by with_unfolding_all rfl) (by with_unfolding_all rfl) (by with_unfolding_all rfl) F.out.1 ⟨a, c, rfl, F.out.2.1, F.out.2.2⟩)
end Go.Proofs.Ytnblhmicbhblpaa
