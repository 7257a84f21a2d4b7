/-
  outdated and heardRole: their walks, for every port and tree.
-/
import Derived.Test.YtnblhmicbhblpaaSel
namespace Go.Proofs.Ytnblhmicbhblpaa
set_option linter.unusedVariables false
set_option maxRecDepth 4000
set_option linter.unusedSimpArgs false
open Go.RowKit

attribute [local go_sem ↓] ldP stP ldT stT ldV stV ldTm stTm eqgV neqV eqgTm neqTm alP
attribute [local go_sem] alP_run
set_option maxHeartbeats 1000000 in
theorem outd_any (p : Pt) (w : World) :
    Calls Try.prog 37 #[.agg p.cs] w fun r w' => r = .returned (.bool (outB p)) ∧ Below w.heap.size w w' := by
  obtain ⟨W, hW, r0, bW, zW⟩ := new_p w p
  have c1 := r0.ppri
  have c2 := r0.pdsg
  have c3 := r0.ppriT
  have c4 := r0.pdsT
  have H : Hid (Below w.heap.size w W) := bW
  clear r0 bW zW
  unfold outB
  cases h1 : (pri p).eq (dsg p)
  · go_enter Try.func37, Try.ntmps37
    go_wp2
    go_ret
    exact ⟨rfl, H.out⟩
  · go_enter Try.func37, Try.ntmps37
    go_wp2
    go_ret
    exact ⟨rfl, H.out⟩
set_option maxHeartbeats 2000000 in
theorem heard_any (h : Hd) (a : Option Addr) (n c i : Nat) (k : Int) (l : List Pt) (w : World) (hs : SlAt w a n c l) (hn : n ≤ 1000) (hi : i < n) :
    Calls Try.prog 38 #[.agg (trc h (.slice a n c)), .int .i64 (i : Int), .int .i64 k] w fun r w' => r = .returned (.int .i64 (heaN h (isK k i) (gtP l i))) ∧ Below w.heap.size w w' := by
  obtain ⟨W, hW, r0, bW, zW⟩ := one_t w h (.slice a n c)
  have hin0 : (0 : Int) ≤ (i : Int) := by omega
  have hin1 : (i : Int) < (n : Int) := by omega
  obtain ⟨b, o, rfl⟩ := hs.some' (by omega)
  have c16 := r0.t16
  have hl := gtP_at (l := l) (i := i) (by rw [hs.len]; exact hi)
  have lp := (hs.below bW).ld hl
  obtain ⟨p, hp⟩ : ∃ p, gtP l i = p := ⟨_, rfl⟩
  rw [hp] at lp ⊢
  obtain ⟨V, sV, rV, bV, zV⟩ := new_pv W p
  have c32 := rV.pdsg
  have c36 := rV.ppri
  have H : Hid (RvAt V w.heap.size 31 (trc h (.slice (some ⟨b, o, none⟩) n c)) ∧ Below w.heap.size w V ∧ RvAt V W.heap.size 47 p.cs) := ⟨r0.below bV, below_over bW bV, rV⟩
  clear hs r0 bW zW rV bV zV hl hp hi
  by_cases h1 : (i : Int) = k
  · subst h1
    have e : heaN h (isK (i : Int) i) p = 3 := by simp [heaN, isK]
    rw [e]
    go_enter Try.func38, Try.ntmps38
    go_wp2
    go_ret
    exact ⟨rfl, H.out.2.1⟩
  · have hb : ((i : Int) == k) = false := by simpa using h1
    cases h2 : bet (dsg p) (pri p)
    · cases h3 : owB h p
      · have e : heaN h (isK k i) p = 1 := by simp [heaN, isK, h1, h2, h3]
        rw [e]
        have P1 : Hid (∀ V : World, _) := fun V => better_row (dsg p) (pri p) V
        have P2 : Hid (∀ V : World, _) := fun V => ownw_any h (.slice (some ⟨b, o, none⟩) n c) p V
        rw [h2] at P1
        rw [h3] at P2
        clear h2 h3 e
        go_enter Try.func38, Try.ntmps38
        go_wp2_with fail
        refine (P1.out V).mono ?_
        rintro _ V1 ⟨rfl, b1⟩
        have H1 : Hid (Below w.heap.size w V1) := below_over H.out.2.1 b1
        have l0 := (H.out.1.below b1).tld
        have l1 := (H.out.2.2.below b1).pld
        clear b1 H c32 c36 sV lp
        go_wp2_with fail
        refine (P2.out V1).mono ?_
        rintro _ V2 ⟨rfl, b2⟩
        have H2 : Hid (Below w.heap.size w V2) := below_over H1.out b2
        clear b2 H1 l0 l1
        go_wp2
        go_ret
        exact ⟨rfl, H2.out⟩
      · have e : heaN h (isK k i) p = 2 := by simp [heaN, isK, h1, h2, h3]
        rw [e]
        have P1 : Hid (∀ V : World, _) := fun V => better_row (dsg p) (pri p) V
        have P2 : Hid (∀ V : World, _) := fun V => ownw_any h (.slice (some ⟨b, o, none⟩) n c) p V
        rw [h2] at P1
        rw [h3] at P2
        clear h2 h3 e
        go_enter Try.func38, Try.ntmps38
        go_wp2_with fail
        refine (P1.out V).mono ?_
        rintro _ V1 ⟨rfl, b1⟩
        have H1 : Hid (Below w.heap.size w V1) := below_over H.out.2.1 b1
        have l0 := (H.out.1.below b1).tld
        have l1 := (H.out.2.2.below b1).pld
        clear b1 H c32 c36 sV lp
        go_wp2_with fail
        refine (P2.out V1).mono ?_
        rintro _ V2 ⟨rfl, b2⟩
        have H2 : Hid (Below w.heap.size w V2) := below_over H1.out b2
        clear b2 H1 l0 l1
        go_wp2
        go_ret
        exact ⟨rfl, H2.out⟩
    · have e : heaN h (isK k i) p = 4 := by simp [heaN, isK, h1, h2]
      rw [e]
      have P1 : Hid (∀ V : World, _) := fun V => better_row (dsg p) (pri p) V
      rw [h2] at P1
      clear h2 e
      go_enter Try.func38, Try.ntmps38
      go_wp2_with fail
      refine (P1.out V).mono ?_
      rintro _ V1 ⟨rfl, b1⟩
      have H1 : Hid (Below w.heap.size w V1) := below_over H.out.2.1 b1
      clear b1 H c32 c36 sV lp
      go_wp2
      go_ret
      exact ⟨rfl, H1.out⟩
end Go.Proofs.Ytnblhmicbhblpaa
