/-
  Which settings may be, by the definition: IsConf: its walk, for all settings.
-/
import Derived.Test.YtllmadgonobdnaaCfg
namespace Go.Proofs.Ytllmadgonobdnaa
set_option linter.unusedVariables false
set_option maxRecDepth 4000
set_option linter.unusedSimpArgs false
open Go.RowKit

attribute [local go_sem ↓] ldT stT ldC stC ldTm
set_option maxHeartbeats 4000000 in
theorem isconf_any (c : Cf) (a : Option Addr) (n k : Nat) (l : List Int) (w : World) (hs : CsAt w a n k l) (hn : n ≤ 1000) :
    Calls Try.prog 46 #[.agg (cfc c (.slice a n k))] w fun r w' => r = .returned (.bool (okC c l)) ∧ Below w.heap.size w w' := by
  obtain ⟨W, hW, r0, bW, zW⟩ := one_c w c (.slice a n k)
  have H : Hid (CsAt W a n k l ∧ n ≤ 1000 ∧ l.length = n ∧ RvAt W w.heap.size 70 (cfc c (.slice a n k)) ∧ Below w.heap.size w W) := ⟨hs.below bW, hn, hs.len, r0, bW⟩
  have B : Hid ((0 ≤ c.nm 0 ∧ c.nm 0 ≤ 18446744073709551615) ∧ (0 ≤ c.nm 2 ∧ c.nm 2 ≤ 255) ∧ (0 ≤ c.nm 3 ∧ c.nm 3 ≤ 255) ∧ (0 ≤ c.nm 4 ∧ c.nm 4 ≤ 255) ∧ (0 ≤ c.nm 5 ∧ c.nm 5 ≤ 255)) := ⟨c.u64 rfl, c.u8' rfl, c.u8' rfl, c.u8' rfl, c.u8' rfl⟩
  have c0 := r0.cnum (j := 0) rfl
  have ct := r0.cT
  have hnn : (n : Int) ≤ 1000 := by omega
  have E : Hid (okC c l = decide (Okc (c.nm 0) (c.nm 1) (c.nm 2) (c.nm 3) (c.nm 4) (c.nm 5) l)) := rfl
  clear hs hn r0 bW zW
  obtain ⟨i0, h0⟩ : ∃ z, c.nm 0 = z := ⟨_, rfl⟩
  rw [h0] at c0 B E
  clear h0
  have hb0 := B.out.1
  have htm : Int.tmod i0 281474976710656 = i0 % 281474976710656 := Int.tmod_eq_emod_of_nonneg hb0.1
  go_enter Try.func46, Try.ntmps46
  by_cases k0 : i0 % 281474976710656 = 0
  · have N : Hid (okC c l = false) := by rw [E.out, decide_eq_false_iff_not]; exact fun h => h.1 k0
    rw [k0] at htm
    clear ct
    go_wp2
    go_ret
    exact ⟨by rw [N.out]; rfl, H.out.2.2.2.2⟩
  have k0b : (i0 % 281474976710656 == 0) = false := by simpa using k0
  go_wp2_with fail
  refine (chkref_any (c.nm 1) (c.nm 2) (c.nm 3) (c.nm 4) W B.out.2.1 B.out.2.2.1 B.out.2.2.2.1).mono ?_
  rintro _ W2 ⟨rfl, b2⟩
  have B2 : Hid (Below W.heap.size W W2) := b2
  have cA := (H.out.2.2.2.1.below b2).cnum (j := 1) rfl
  have cH := (H.out.2.2.2.1.below b2).cnum (j := 5) rfl
  have c6 := (H.out.2.2.2.1.below b2).c6
  clear b2 ct c0
  rcases chk01 (c.nm 2) (c.nm 3) (c.nm 4) with k1 | k1
  rotate_left
  · rw [k1]
    have N : Hid (okC c l = false) := by rw [E.out, decide_eq_false_iff_not]; exact fun h => by have := h.2.1; omega
    clear cA cH c6
    go_wp2
    go_ret
    exact ⟨by rw [N.out]; rfl, below_over H.out.2.2.2.2 B2.out⟩
  rw [k1]
  have K1 : Hid (chkT (c.nm 2) (c.nm 3) (c.nm 4) = 0) := k1
  clear k1
  obtain ⟨t0, ht0⟩ : ∃ z, c.nm 1 = z := ⟨_, rfl⟩
  rw [ht0] at cA E
  clear ht0
  obtain ⟨u, hu⟩ : ∃ z, c.nm 5 = z := ⟨_, rfl⟩
  rw [hu] at cH E B
  clear hu
  have hb5 := B.out.2.2.2.2
  by_cases k2 : t0 = 0
  rotate_left
  · have N : Hid (okC c l = false) := by rw [E.out, decide_eq_false_iff_not]; exact fun h => k2 h.2.2.1
    have k2b : (t0 == 0) = false := by simpa using k2
    have k2n : (t0 != 0) = true := by simpa using k2
    clear cH c6
    go_wp2
    go_ret
    exact ⟨by rw [N.out]; rfl, below_over H.out.2.2.2.2 B2.out⟩
  subst k2
  by_cases k3 : u < 1
  · have N : Hid (okC c l = false) := by rw [E.out, decide_eq_false_iff_not]; exact fun h => by have := h.2.2.2.1; omega
    go_wp2
    go_ret
    exact ⟨by rw [N.out]; rfl, below_over H.out.2.2.2.2 B2.out⟩
  by_cases k4 : 10 < u
  · have N : Hid (okC c l = false) := by rw [E.out, decide_eq_false_iff_not]; exact fun h => by have := h.2.2.2.2.1; omega
    go_wp2
    go_ret
    exact ⟨by rw [N.out]; rfl, below_over H.out.2.2.2.2 B2.out⟩
  by_cases k5 : (n : Int) < 1
  · have N : Hid (okC c l = false) := by rw [E.out, decide_eq_false_iff_not]; exact fun h => by have := h.2.2.2.2.2.1; have := H.out.2.2.1; omega
    go_wp2
    go_ret
    exact ⟨by rw [N.out]; rfl, below_over H.out.2.2.2.2 B2.out⟩
  by_cases k6 : (8 : Int) < (n : Int)
  · have N : Hid (okC c l = false) := by rw [E.out, decide_eq_false_iff_not]; exact fun h => by have := h.2.2.2.2.2.2.1; have := H.out.2.2.1; omega
    go_wp2
    go_ret
    exact ⟨by rw [N.out]; rfl, below_over H.out.2.2.2.2 B2.out⟩
  have YES : Hid (l.any badC = false → okC c l = true) := fun e => by rw [E.out, decide_eq_true_iff]; exact ⟨k0, K1.out, rfl, by omega, by omega, by have := H.out.2.2.1; omega, by have := H.out.2.2.1; omega, e⟩
  have NOT : Hid (l.any badC = true → okC c l = false) := fun e => by rw [E.out, decide_eq_false_iff_not]; exact fun h => by have := h.2.2.2.2.2.2.2; rw [e] at this; cases this
  go_wp2_with fail
  clear cA cH c6 k3 k4 k5 k6 hb5 k0 k0b htm hb0
  go_loopw [3] (fun v3 wr => ∃ i : Nat, i ≤ n ∧ v3 = .int .i64 i ∧ (∀ j x, j < i → l[j]? = some x → badC x = false) ∧ Below W.heap.size W wr) (fun v3 _ => n - (intOf v3).toNat)
  case atStart => exact ⟨0, by omega, rfl, fun j x hj => by omega, B2.out⟩
  case round =>
    obtain ⟨i, hi, rfl, ht, hB⟩ := hrel
    have J : Hid ((∀ j x, j < i → l[j]? = some x → badC x = false) ∧ Below W.heap.size W wr) := ⟨ht, hB⟩
    have hin0 : (0 : Int) ≤ (i : Int) := by omega
    have c6 := (H.out.2.2.2.1.below hB).c6
    by_cases hit : i < n
    · have hin1 : (i : Int) < (n : Int) := by omega
      have hl : i < l.length := by rw [H.out.2.2.1]; exact hit
      obtain ⟨b, o, rfl⟩ := H.out.1.some' (by omega)
      have cx := (H.out.1.below hB).cells b o rfl i l[i] (List.getElem?_eq_getElem hl)
      have E2 : Hid (i < l.length ∧ l[i]? = some l[i]) := ⟨hl, List.getElem?_eq_getElem hl⟩
      obtain ⟨x, hx⟩ : ∃ x, l[i] = x := ⟨_, rfl⟩
      rw [hx] at cx E2
      have HX : Hid (∀ h : i < l.length, l[i] = x) := fun _ => hx
      have BD : Hid (badC x = (decide (x < 1) || decide (200000000 < x))) := rfl
      clear ht hB hl hx
      by_cases h1 : x < 1
      · have N : Hid (okC c l = false) := NOT.out (find_pre E2.out.1 J.out.1 (by rw [HX.out E2.out.1, BD.out]; simp [h1]))
        go_wp2
        go_ret
        exact ⟨by rw [N.out]; rfl, below_over H.out.2.2.2.2 J.out.2⟩
      · by_cases h2 : 200000000 < x
        · have N : Hid (okC c l = false) := NOT.out (find_pre E2.out.1 J.out.1 (by rw [HX.out E2.out.1, BD.out]; simp [h2]))
          go_wp2
          go_ret
          exact ⟨by rw [N.out]; rfl, below_over H.out.2.2.2.2 J.out.2⟩
        · have N : Hid (∀ j x, j < i + 1 → l[j]? = some x → badC x = false) := fun j y hj hy => by
            by_cases hji : j = i
            · subst hji
              rw [E2.out.2] at hy
              cases hy
              rw [BD.out]
              simp
              omega
            · exact J.out.1 j y (by omega) hy
          go_wp2
          go_roundw
          case rel => exact ⟨i + 1, by omega, by go_num, N.out, J.out.2⟩
          case measure => simp [intOf]; omega
    · have hin : i = n := by omega
      subst hin
      have hin1 : ¬ (i : Int) < (i : Int) := by omega
      clear ht hB
      go_wp2
      go_ret
      exact ⟨by rw [YES.out (find_no (fun j x hj => J.out.1 j x (by rw [← H.out.2.2.1]; exact hj)))]; rfl, below_over H.out.2.2.2.2 J.out.2⟩
end Go.Proofs.Ytllmadgonobdnaa
