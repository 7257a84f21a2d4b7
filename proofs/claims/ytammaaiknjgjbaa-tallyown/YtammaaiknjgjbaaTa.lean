/-
  The definition's tally: walks of Add and Same, each for every input.
-/
import Derived.Test.YtammaaiknjgjbaaTr
namespace Go.Proofs.Ytammaaiknjgjbaa
set_option linter.unusedVariables false
set_option maxRecDepth 4000
set_option linter.unusedSimpArgs false
open Go.RowKit
attribute [local go_sem ↓] apI bsI ldR stR stI
attribute [local go_sem] bzI
set_option maxHeartbeats 4000000 in
theorem radd_any {W : World} {a : Option Addr} {c : Nat} {N : List Int} (h : SlAt eI W a 15 c N) (hN : IsN N) (w n : Int) :
    Calls Try.prog 14 #[.agg #[.slice a 15 c], .int .i64 w, .int .i64 n] W fun e W' => ∃ a' c', e = .returned (.tuple #[.agg #[.slice a' 15 c'], .int .i64 (addE N w n)]) ∧ SlAt eI W' a' 15 c' (addN N w n) ∧ Below W.heap.size W W' ∧ (a' = a ∨ ∀ z, a' = some z → W.heap.size ≤ z.block) := by
  obtain ⟨V1, hV1, r1, b1, z1⟩ := RtAt.new W (.slice a 15 c)
  obtain ⟨V, hV, r2, b2, z2⟩ := RtAt.new V1 (.slice none 0 0)
  have H : Hid (RtAt V W.heap.size (.slice a 15 c) ∧ RtAt V V1.heap.size (.slice none 0 0) ∧ Below W.heap.size W V ∧ V1.heap.size = W.heap.size + 1 ∧ SlAt eI W a 15 c N) := ⟨r1.below b2, r2, below_over b1 b2, z1, h⟩
  have l0 := H.out.1.ld
  have c0 : V.cell? ⟨W.heap.size, 0, none⟩ = some (.slice a 15 c) := H.out.1.cell 0 _ rfl
  obtain ⟨Z, sZ, mZ, gZ⟩ := H.out.2.1.st (.slice a 15 c) rfl
  have G : Hid (RtAt Z V1.heap.size (.slice a 15 c) ∧ Below W.heap.size W Z) := ⟨mZ, gro H.out.2.2.1 gZ (by have := H.out.2.2.2.1; omega) H.out.2.2.1.size⟩
  clear r1 b1 z1 r2 b2 z2 mZ gZ
  by_cases hb : okW w = false ∨ n < 0 ∨ 1073741824 < n
  · have P : Hid (addE N w n = 220 ∧ addN N w n = N) := by
      have e : addE N w n = 220 := by unfold addE; rw [if_pos hb]
      exact ⟨e, by unfold addN; rw [e]; rfl⟩
    cases hw : okW w with
    | false =>
      clear hb h
      go_enter Try.func14, Try.ntmps14
      go_wp2_with fail
      refine (ris_any w _).mono ?_
      rintro _ _ ⟨rfl, rfl⟩
      rw [hw]
      go_wp2
      refine ret_r Try.results14 rfl rfl rfl G.out.1 ?_
      exact ⟨a, c, by rw [P.out.1]; rfl, by rw [P.out.2]; exact H.out.2.2.2.2.below G.out.2, G.out.2, .inl rfl⟩
    | true =>
      by_cases h0 : n < 0
      · clear hb h
        go_enter Try.func14, Try.ntmps14
        go_wp2_with fail
        refine (ris_any w _).mono ?_
        rintro _ _ ⟨rfl, rfl⟩
        rw [hw]
        go_wp2
        refine ret_r Try.results14 rfl rfl rfl G.out.1 ?_
        exact ⟨a, c, by rw [P.out.1]; rfl, by rw [P.out.2]; exact H.out.2.2.2.2.below G.out.2, G.out.2, .inl rfl⟩
      · have h1 : 1073741824 < n := by
          rcases hb with e | e | e
          · rw [hw] at e; cases e
          · exact absurd e h0
          · exact e
        clear hb h
        go_enter Try.func14, Try.ntmps14
        go_wp2_with fail
        refine (ris_any w _).mono ?_
        rintro _ _ ⟨rfl, rfl⟩
        rw [hw]
        go_wp2
        refine ret_r Try.results14 rfl rfl rfl G.out.1 ?_
        exact ⟨a, c, by rw [P.out.1]; rfl, by rw [P.out.2]; exact H.out.2.2.2.2.below G.out.2, G.out.2, .inl rfl⟩
  · have hw : okW w = true := by
      cases hw : okW w with
      | true => rfl
      | false => exact absurd (.inl hw) hb
    have h0 : ¬ n < 0 := fun e => hb (.inr (.inl e))
    have h1 : ¬ 1073741824 < n := fun e => hb (.inr (.inr e))
    have g := hN.get hw
    have e0 : addE N w n = if 1125899906842624 < getN N w + n then 3 else 0 := by unfold addE; rw [if_neg hb]
    obtain ⟨b, o, rfl⟩ := h.some' (by omega)
    obtain ⟨k, rfl⟩ : ∃ k : Nat, w = k := ⟨w.toNat, g.2.2.2.1⟩
    have hk : (k : Int) < 15 := by have := g.2.2.2.2.1; omega
    have hk0 : (0 : Int) ≤ (k : Int) := by omega
    have gx := g.1
    rw [Int.toNat_natCast] at gx
    obtain ⟨z, hz⟩ : ∃ z, getN N k = z := ⟨_, rfl⟩
    have hz0 := g.2.1
    have hz1 := g.2.2.1
    rw [hz] at hz0 hz1 e0 gx
    have c1 : V.cell? ⟨b, o + k, none⟩ = some (.int .i64 z) := lI (h.below H.out.2.2.1) gx
    by_cases h2 : 1125899906842624 < z + n
    · have P : Hid (addE N k n = 3 ∧ addN N k n = N) := by
        rw [if_pos h2] at e0
        exact ⟨e0, by unfold addN; rw [e0]; rfl⟩
      clear hb h g e0 gx hz
      go_enter Try.func14, Try.ntmps14
      go_wp2_with fail
      refine (ris_any (k : Int) _).mono ?_
      rintro _ _ ⟨rfl, rfl⟩
      rw [hw]
      go_wp2
      refine ret_r Try.results14 rfl rfl rfl G.out.1 ?_
      exact ⟨_, c, by rw [P.out.1]; rfl, by rw [P.out.2]; exact H.out.2.2.2.2.below G.out.2, G.out.2, .inl rfl⟩
    · have P : Hid (addE N k n = 0 ∧ addN N k n = N.set k (z + n)) := by
        rw [if_neg h2] at e0
        exact ⟨e0, by unfold addN; rw [e0, if_pos rfl, Int.toNat_natCast, hz]⟩
      obtain ⟨v1, X1, ap1, o1, bx1⟩ := ints_copy (h.below H.out.2.2.1) (by omega) 27
      obtain ⟨Vz, hVz⟩ : ∃ e, V.alloc (.cells #[] 3) = e := ⟨_, rfl⟩
      have cz : Vz.cell? ⟨W.heap.size, 0, none⟩ = some (.slice (some ⟨b, o, none⟩) 15 c) := (H.out.1.below (by rw [← hVz]; exact (Below.refl _ _).alloc (Nat.le_refl _) _)).cell 0 _ rfl
      rw [hVz] at ap1
      obtain ⟨y, yc, rfl, hy, p1⟩ := o1.pat' (by rw [hN.1]; omega)
      rw [hN.1] at ap1
      have cy : X1.cell? ⟨y, k, none⟩ = some (.int .i64 z) := p1.cell kI (j := 0) gx rfl (by show k = k * 1 + 0; omega)
      obtain ⟨X2, s2, p2, g2⟩ := p1.st1 kI (i := k) (j := 0) (q := k) (tv := 3) (y := z + n) (v := .int .i64 (z + n)) gx infoI (by decide) rfl (fun r => by
        cases r with
        | zero => rfl
        | succ r => rfl) (by show k = k * 1 + 0; omega)
      have hl2 : (N.set k (z + n)).length = 15 := by rw [List.length_set]; exact hN.1
      obtain ⟨X3, s3, m3, g3⟩ := RtAt.st (RvAt.keptBut (H.out.2.1.below bx1) g2 (by have := RvAt.lt H.out.2.1; simp; omega)) (.slice (some ⟨y, 0, none⟩) 15 yc) rfl
      have F : Hid (RtAt X3 V1.heap.size (.slice (some ⟨y, 0, none⟩) 15 yc) ∧ SlAt eI X3 (some ⟨y, 0, none⟩) 15 yc (N.set k (z + n)) ∧ Below W.heap.size W X3 ∧ W.heap.size ≤ y) := by
        have hv := RvAt.lt H.out.2.1
        have hv2 := H.out.2.2.2.1
        have t0 := below_over H.out.2.2.1 bx1
        have t1 := gro t0 g2 (by have := H.out.2.2.1.size; omega) t0.size
        have t2 := gro t1 g3 (by omega) t1.size
        have q := (p2.sl kI).keptBut g3 (fun x hx _ => by cases hx; simp; omega)
        rw [hl2] at q
        exact ⟨m3, q, t2, by have := H.out.2.2.1.size; omega⟩
      clear hb h g e0 gx hz o1 bx1 p1 hy p2 g2 m3 g3 hl2 sZ G
      go_enter Try.func14, Try.ntmps14
      go_wp2_with fail
      refine (ris_any (k : Int) _).mono ?_
      rintro _ _ ⟨rfl, rfl⟩
      rw [hw]
      go_wp2
      refine ret_r Try.results14 rfl rfl rfl F.out.1 ?_
      exact ⟨_, _, by rw [P.out.1]; rfl, by rw [P.out.2]; exact F.out.2.1, F.out.2.2.1, .inr fun z e => by cases e; exact F.out.2.2.2⟩
set_option maxHeartbeats 4000000 in
theorem rsame_yes {W : World} {l : List Int} {a a' : Option Addr} {n c n' c' : Nat} (h1 : SlAt eI W a n c l) (h2 : SlAt eI W a' n' c' l) :
    Calls Try.prog 17 #[.slice a n c, .slice a' n' c'] W fun e W' => e = .returned (.bool true) ∧ Below W.heap.size W W' := by
  obtain rfl : n = n' := by rw [← h1.len, ← h2.len]
  have hn := h1.int
  have H : Hid (SlAt eI W a n c l ∧ SlAt eI W a' n c' l) := ⟨h1, h2⟩
  have nn : ((n : Int) != (n : Int)) = false := by simp
  clear h1 h2
  go_enter Try.func17, Try.ntmps17
  go_wp2_with fail
  go_loopw [5] (fun v wr => ∃ i : Nat, i ≤ n ∧ v = .int .i64 i ∧ Below W.heap.size W wr) (fun v _ => n - (intOf v).toNat)
  case atStart => exact ⟨0, by omega, rfl, Below.refl _ _⟩
  case round =>
    obtain ⟨i, hi, rfl, hB⟩ := hrel
    have J : Hid (Below W.heap.size W wr) := hB
    have hi0 : (0 : Int) ≤ (i : Int) := by omega
    clear hB nn
    by_cases hit : i < n
    · have hi1 : (i : Int) < (n : Int) := by omega
      obtain ⟨b1, o1, rfl⟩ := H.out.1.some' (by omega)
      obtain ⟨b2, o2, rfl⟩ := H.out.2.some' (by omega)
      obtain ⟨x, hx⟩ : ∃ t, l[i]? = some t := ⟨_, List.getElem?_eq_getElem (by rw [H.out.1.len]; exact hit)⟩
      have f0 : ∀ q : Later wr, q.val.cell? ⟨b1, o1 + i, none⟩ = some (.int .i64 x) := fun q => lI ((H.out.1.below J.out).below q.below) hx
      have f1 : ∀ q : Later wr, q.val.cell? ⟨b2, o2 + i, none⟩ = some (.int .i64 x) := fun q => lI ((H.out.2.below J.out).below q.below) hx
      have xx : (x != x) = false := by simp
      clear hx
      go_wp2_with fail
      refine wp_region_later (by kernel_rfl) (by kernel_rfl) ?_
      repeat (go_big_quiet_step (first | exact rfl))
      refine wpQuiet_nil ?_
      intro _ hw'
      obtain ⟨q, rfl⟩ := hw'
      obtain ⟨X1, hX1⟩ : ∃ e, q.val = e := ⟨_, rfl⟩
      have K1 : Hid (Below W.heap.size W X1) := by rw [← hX1]; exact below_over J.out q.below
      rw [hX1]
      clear hX1 f0 f1 J
      go_wp2
      go_roundw
      case rel => exact ⟨i + 1, by omega, by go_num, K1.out⟩
      case measure => simp [intOf]; omega
    · obtain rfl : i = n := by omega
      have hi1 : ¬ (i : Int) < (i : Int) := by omega
      clear hit
      go_wp2
      go_ret
      exact ⟨rfl, J.out⟩
end Go.Proofs.Ytammaaiknjgjbaa
