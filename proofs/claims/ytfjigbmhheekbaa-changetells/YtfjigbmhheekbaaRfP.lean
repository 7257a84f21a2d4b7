/-
  The definition: the walk of Prop, for every tree.
-/
import Derived.Test.YtfjigbmhheekbaaRfA
namespace Go.Proofs.Ytfjigbmhheekbaa
set_option linter.unusedVariables false
set_option maxRecDepth 4000
set_option linter.unusedSimpArgs false
open Go.RowKit

attribute [local go_sem ↓] ldP stP stB stU stW ldT stT st32 alP apE bs32
attribute [local go_sem] alP_run
abbrev TRsN (w : World) (h : Hd) (n : Nat) (L : List Pt) (r : Ending) (w' : World) : Prop := ∃ a' c', r = .returned (.agg (trc h (.slice a' n c'))) ∧ SlAt w' a' n c' L ∧ (∀ x, a' = some x → w.heap.size ≤ x.block) ∧ Below w.heap.size w w'
set_option maxHeartbeats 4000000 in
theorem rprop_in (h : Hd) (a : Option Addr) (n c : Nat) (l : List Pt) (k : Nat) (w : World) (hs : SlAt w a n c l) (hn : n ≤ 1000) (hk : k < n) :
    Calls Try.prog 15 #[.agg (trc h (.slice a n c)), .int .i64 (k : Int)] w fun r w' => TRsN w h n (prpL l k) r w' := by
  obtain ⟨g, o, rfl⟩ := hs.some' (by omega)
  have HL : Hid (l.length = n ∧ n ≤ 1000 ∧ k < n ∧ SlAt w (some ⟨g, o, none⟩) n c l) := ⟨hs.len, hn, hk, hs⟩
  obtain ⟨W, hW, r0, r1, bW, zW⟩ := two_t w h (.slice (some ⟨g, o, none⟩) n c)
  have l0 := r0.tld
  have H : Hid (TS w W w.heap.size (w.heap.size + 1) h (.slice (some ⟨g, o, none⟩) n c)) := ⟨r0, r1, bW, by omega⟩
  have T : Hid _ := has_in (h := h) (a := some ⟨g, o, none⟩) (c := c) (w := W) hk
  have hn1 : n ≤ 1000 := hn
  clear hs hn hk r0 r1 bW zW
  go_enter Try.func15, Try.ntmps15
  go_wp2_with fail
  refine Calls.mono T.out ?_
  rintro _ V ⟨rfl, bV⟩
  have K : Hid (TS w V w.heap.size (w.heap.size + 1) h (.slice (some ⟨g, o, none⟩) n c)) := H.out.below bV
  obtain ⟨B, hB⟩ : ∃ B, V.heap.size = B := ⟨_, rfl⟩
  have BB : Hid (w.heap.size + 2 ≤ B) := by have := K.out.out.lt; rw [← hB]; exact this
  have BV : Hid (B ≤ V.heap.size) := by rw [hB]; exact Nat.le_refl _
  clear bV l0 hW H T hB
  go_wp2_with fail
  go_loopw [5, 6] (fun v5 v6 wr => ∃ i : Nat, i ≤ n ∧ v6 = .int .i64 i ∧ Own wr B v5 ((l.take i).mapIdx (tcP k)) ∧ TS w wr w.heap.size (w.heap.size + 1) h (.slice (some ⟨g, o, none⟩) n c) ∧ B ≤ wr.heap.size) (fun _ v6 _ => n - (intOf v6).toNat)
  case atStart => exact ⟨0, by omega, rfl, Own.nil _ _, K.out, BV.out⟩
  case round =>
    obtain ⟨i, hi, rfl, hO, hQ, hBw⟩ := hrel
    have hin0 : (0 : Int) ≤ (i : Int) := by omega
    have d16 := hQ.var.t16
    by_cases hit : i < n
    · have hin1 : (i : Int) < (n : Int) := by omega
      have hil : i < l.length := by rw [HL.out.1]; exact hit
      have lp := (HL.out.2.2.2.below hQ.bel).ld (gtP_at hil)
      have hnx := idx_next (f := tcP k) hil
      obtain ⟨p, hp⟩ : ∃ p, gtP l i = p := ⟨_, rfl⟩
      rw [hp] at lp hnx
      by_cases hik : i = k
      · skip
        obtain ⟨Y0, y0, N0⟩ := PN.new wr p
        obtain ⟨pb, hpb⟩ : ∃ z, wr.heap.size = z := ⟨_, rfl⟩
        rw [hpb] at y0 N0
        have hnb : ((i : Int) != (k : Int)) = false := by subst hik; simp
        have N7 := N0
        rw [show tcP k i p = p by unfold tcP; rw [if_pos hik]] at hnx
        have l7 := N7.var.pld
        have hB7 : B ≤ Y0.heap.size := Nat.le_trans hBw N7.bel.size
        obtain ⟨v', Y8, ap, o8, b8⟩ := (hO.below N7.bel).next hB7 (by simp; have := HL.out.1; omega) (p)
        have bs7 := bsP_is (p) Y0
        have S8 := hQ.below N7.bel
        have Z : Hid (Own Y8 B v' ((l.take (i + 1)).mapIdx (tcP k)) ∧ TS w Y8 w.heap.size (w.heap.size + 1) h (.slice (some ⟨g, o, none⟩) n c) ∧ B ≤ Y8.heap.size) := by
          have hb2 := BB.out
          exact ⟨by rw [hnx]; exact o8, ⟨S8.var.belowB b8 (by omega), S8.out.belowB b8 (by omega), S8.bel.trans (b8.mono (by omega)), S8.hd⟩, Nat.le_trans hB7 b8.size⟩
        clear N0 N7 o8 b8 S8 hB7 hO hQ hBw hnx hik hp hil
        go_wp2
        go_roundw
        case rel => exact ⟨i + 1, by omega, by go_num, Z.out.1, Z.out.2.1, Z.out.2.2⟩
        case measure => simp [intOf]; omega
      · skip
        obtain ⟨Y0, y0, N0⟩ := PN.new wr p
        obtain ⟨pb, hpb⟩ : ∃ z, wr.heap.size = z := ⟨_, rfl⟩
        rw [hpb] at y0 N0
        have hnb : ((i : Int) != (k : Int)) = true := by simp; omega
        have hne : ((i : Int) == (k : Int)) = false := by simp; omega
        obtain ⟨Y1, y1, N7⟩ := N0.setB kb27 true
        rw [show tcP k i p = p.setB 27 kb27 true by unfold tcP; rw [if_neg hik]] at hnx
        have l7 := N7.var.pld
        have hB7 : B ≤ Y1.heap.size := Nat.le_trans hBw N7.bel.size
        obtain ⟨v', Y8, ap, o8, b8⟩ := (hO.below N7.bel).next hB7 (by simp; have := HL.out.1; omega) (p.setB 27 kb27 true)
        have bs7 := bsP_is (p.setB 27 kb27 true) Y1
        have S8 := hQ.below N7.bel
        have Z : Hid (Own Y8 B v' ((l.take (i + 1)).mapIdx (tcP k)) ∧ TS w Y8 w.heap.size (w.heap.size + 1) h (.slice (some ⟨g, o, none⟩) n c) ∧ B ≤ Y8.heap.size) := by
          have hb2 := BB.out
          exact ⟨by rw [hnx]; exact o8, ⟨S8.var.belowB b8 (by omega), S8.out.belowB b8 (by omega), S8.bel.trans (b8.mono (by omega)), S8.hd⟩, Nat.le_trans hB7 b8.size⟩
        clear N0 N7 o8 b8 S8 hB7 hO hQ hBw hnx hik hp hil
        go_wp2
        go_roundw
        case rel => exact ⟨i + 1, by omega, by go_num, Z.out.1, Z.out.2.1, Z.out.2.2⟩
        case measure => simp [intOf]; omega
    · have hin : i = n := by omega
      subst hin
      have hin1 : ¬ (i : Int) < (i : Int) := by omega
      rw [List.take_of_length_le (by rw [HL.out.1]; omega)] at hO
      obtain ⟨LL, hLL⟩ : ∃ z, l.mapIdx (tcP k) = z := ⟨_, rfl⟩
      rw [hLL] at hO
      have hlS : LL.length = i := by rw [← hLL, List.length_mapIdx, HL.out.1]
      obtain ⟨a', c', hx, pa, hga⟩ := PA.of hO
      rw [hlS] at hx pa
      subst hx
      obtain ⟨X2, t2, rX2, gX2⟩ := hQ.var.tset (y := .slice a' i c') rfl
      have S2 : TS w X2 w.heap.size (w.heap.size + 1) h (.slice a' i c') := ⟨rX2, hQ.out.keptBut gX2 (by simp), gro hQ.bel gX2 (Nat.le_refl _) hQ.bel.size, hQ.hd⟩
      have sl2 := pa.sl.keptT hQ.var gX2
      have lX := S2.var.tld
      obtain ⟨U, sU, h1, h2, gU⟩ := S2.tell (y := .slice a' i c') rfl
      have G : Hid (RvAt U (w.heap.size + 1) 43 (trc h (.slice a' i c')) ∧ SlAt U a' i c' (prpL l k) ∧ (∀ x, a' = some x → w.heap.size ≤ x.block) ∧ Below w.heap.size w U) := by
        refine ⟨h1, ?_, fun x hx => ?_, h2⟩
        · show SlAt U a' i c' (l.mapIdx (tcP k))
          rw [hLL]
          exact sl2.keptT S2.out gU
        · have := hga x.block (by rw [hx]; rfl)
          have := BB.out
          omega
      clear hO hLL hlS pa hga rX2 gX2 S2 sl2 h1 h2 gU hQ
      go_wp2
      refine bodyPost_ret (results_row rtT Try.results15 _ _ _ _ rfl G.out.1 (trc_size _ _)) rfl ?_
      exact ⟨a', c', rfl, G.out.2⟩
end Go.Proofs.Ytfjigbmhheekbaa
