/-
  RolesOne, RolesBest: their walks, for every tree.
-/
import Derived.Test.YtnblhmicbhblpaaLawS
namespace Go.Proofs.Ytnblhmicbhblpaa
set_option linter.unusedVariables false
set_option maxRecDepth 4000
set_option linter.unusedSimpArgs false
open Go.RowKit

/-- How many of the first i ports are at that place. -/
def cntK (K : Int) (i : Nat) : Int := if 0 ≤ K ∧ K < i then 1 else 0
theorem cnt_yes {K : Int} {i : Nat} (h : (i : Int) = K) : cntK K i = 0 ∧ cntK K (i + 1) = 1 := by
  unfold cntK
  rw [if_neg (by omega), if_pos (by omega)]
  exact ⟨rfl, rfl⟩
theorem cnt_no {K : Int} {i : Nat} (h : ¬ (i : Int) = K) : cntK K (i + 1) = cntK K i := by
  unfold cntK
  by_cases h1 : 0 ≤ K ∧ K < i
  · rw [if_pos h1, if_pos (by omega)]
  · rw [if_neg h1, if_neg (by omega)]
theorem cnt_in (K : Int) (i : Nat) : 0 ≤ cntK K i ∧ cntK K i ≤ 1 := by
  unfold cntK
  split <;> omega
theorem eq_own (h : Hd) (l : List Pt) : (rooV h l).eq (ownV h) = decide (rooK h l = -1) := by
  rw [Bool.eq_iff_iff, Row.eq_iff, roo_own]
  simp
attribute [local go_sem ↓] ldT stT ldV stV eqgV eqlV
set_option maxHeartbeats 8000000 in
theorem RolesOne_walk (h : Hd) (a0 : Option Addr) (n0 c0 : Nat) (l0 : List Pt) (w : World) (hs : SlAt w a0 n0 c0 l0) :
    Calls Try.prog 6 #[.agg (trc h (.slice a0 n0 c0))] w fun r w' => r = .returned (.bool true) ∧ Below w.heap.size w w' := by
  obtain ⟨W, hW, r0, bW, zW⟩ := one_t w h (.slice a0 n0 c0)
  have t0 := r0.tld
  have H : Hid (SlAt W a0 n0 c0 l0 ∧ RvAt W w.heap.size 31 (trc h (.slice a0 n0 c0)) ∧ Below w.heap.size w W) := ⟨hs.below bW, r0, bW⟩
  clear hs r0 bW zW
  go_enter Try.func6, Try.ntmps6
  go_wp2_with fail
  refine (few_any h a0 n0 c0 l0 W H.out.1).mono ?_
  rintro _ W1 ⟨n, rfl, hn, s1, b1⟩
  obtain ⟨l, hl⟩ : ∃ l, l0.take 12 = l := ⟨_, rfl⟩
  rw [hl] at s1
  obtain ⟨V0, sV0, t⟩ := TQ.few (w := w) H.out.2.1 H.out.2.2 (Nat.le_refl _) b1 s1
  have T : Hid (TQ w V0 w.heap.size h a0 n c0 l) := t
  have lt := t.ld
  have hn1 : n ≤ 1000 := by omega
  clear s1 b1 t t0 H hW hl
  go_wp2_with fail
  refine (select_any h a0 n c0 l V0 T.out.sl hn1).mono ?_
  rintro _ V1 ⟨a1, c1, rfl, s1, b1⟩
  have HL : Hid (l.length = n) := T.out.sl.len
  have E : Hid (rOf (hdS h l) = rooV h l ∧ (rooV h l).eq (ownV h) = decide (rooK h l = -1) ∧ (-1 ≤ rooK h l ∧ rooK h l < n) ∧ (∀ i, i < n → ((gtP (selL h l) i).nm 31 = 3 ↔ (i : Int) = rooK h l)) ∧ (∀ i, i < n → (i : Int) = rooK h l → (gtP (selL h l) i).nm 0 = (hdS h l).nm 7) ∧ (selL h l).length = n) := by
    refine ⟨hdS_root h l, eq_own h l, ?_, fun i hi => one_at h l (by rw [HL.out]; exact hi), fun i hi e => one_id h l (by rw [HL.out]; exact hi) e, by rw [selL_len, HL.out]⟩
    have := rtF_range h l l.length
    rw [HL.out] at this
    unfold rooK
    rw [HL.out]
    exact this
  obtain ⟨hS, hhS⟩ : ∃ z, hdS h l = z := ⟨_, rfl⟩
  obtain ⟨lS, hlS⟩ : ∃ z, selL h l = z := ⟨_, rfl⟩
  obtain ⟨K, hK⟩ : ∃ z, rooK h l = z := ⟨_, rfl⟩
  obtain ⟨v, hv⟩ : ∃ z, rooV h l = z := ⟨_, rfl⟩
  rw [hhS, hlS, hK, hv] at E
  rw [hlS] at s1
  rw [hhS]
  clear hhS hlS hK hv
  obtain ⟨V, sV, t2, b2⟩ := TQ.new (w := w) (h := hS) s1 (below_over T.out.bel b1)
  obtain ⟨sb, hsb⟩ : ∃ z, V1.heap.size = z := ⟨_, rfl⟩
  rw [hsb] at sV t2
  have G : Hid (TQ w V w.heap.size h a0 n c0 l ∧ TQ w V sb hS a1 n c1 lS) := ⟨(T.out.below b1).below b2, t2⟩
  clear s1 b1 t2 b2 T lt
  go_wp2_with fail
  clear sV sV0
  go_loopw [4, 5] (fun v4 v5 wr => ∃ i : Nat, i ≤ n ∧ v5 = .int .i64 i ∧ v4 = .int .i64 (cntK K i) ∧ Below V.heap.size V wr) (fun _ v5 _ => n - (intOf v5).toNat)
  case atStart => exact ⟨0, by omega, rfl, by rw [show cntK K 0 = 0 by unfold cntK; rw [if_neg (by omega)]], Below.refl _ _⟩
  case round =>
    obtain ⟨i, hi, rfl, rfl, hB⟩ := hrel
    have hin0 : (0 : Int) ≤ (i : Int) := by omega
    have c16 := (G.out.2.below hB).var.t16
    have JB : Hid (Below V.heap.size V wr) := hB
    have hcn := cnt_in K i
    by_cases hit : i < n
    · have hin1 : (i : Int) < (n : Int) := by omega
      have hil : i < lS.length := by rw [E.out.2.2.2.2.2]; exact hit
      obtain ⟨b, o, rfl⟩ := G.out.2.sl.some' (by omega)
      have hat := gtP_at hil
      have c31 := ((G.out.2.below hB).sl).cell hat ((gtP lS i).num (j := 31) (k := .i64) rfl) (by omega)
      by_cases hik : (i : Int) = K
      · have e31 : (gtP lS i).nm 31 = 3 := (E.out.2.2.2.1 i hit).2 hik
        have e0 := E.out.2.2.2.2.1 i hit hik
        rw [e31] at c31
        have f16 := fun z : Later wr => ((G.out.2.below hB).below z.below).var.t16
        have f7 := fun z : Later wr => ((G.out.2.below hB).below z.below).var.tnum (j := 7) (k := .u16) rfl
        have f0 := fun z : Later wr => (((G.out.2.below hB).below z.below).sl).cell hat ((gtP lS i).num (j := 0) (k := .u16) rfl) (by omega)
        rw [e0] at f0
        simp only [Nat.add_zero] at f0
        have NX : Hid (cntK K (i + 1) = 1) := (cnt_yes hik).2
        rw [(cnt_yes hik).1] at hcn ⊢
        clear hB hik e31 e0 hat hcn
        go_wp2_with fail
        refine wp_region_later (by kernel_rfl) (by kernel_rfl) ?_
        repeat (go_big_quiet_step (first | exact rfl))
        refine wpQuiet_nil ?_
        intro _ hw'
        obtain ⟨z, rfl⟩ := hw'
        clear f16 f7 f0
        go_wp2
        go_roundw
        case rel => exact ⟨i + 1, by omega, by go_num, by rw [NX.out], below_over JB.out z.below⟩
        case measure => simp [intOf]; omega
      · have e31 : ¬ (gtP lS i).nm 31 = 3 := fun e => hik ((E.out.2.2.2.1 i hit).1 e)
        have hb3 : ((gtP lS i).nm 31 == 3) = false := by simpa using e31
        have NX : Hid (cntK K (i + 1) = cntK K i) := cnt_no hik
        clear hB hik hat
        go_wp2
        go_roundw
        case rel => exact ⟨i + 1, by omega, by go_num, by rw [NX.out], JB.out⟩
        case measure => simp [intOf]; omega
    · have hin : i = n := by omega
      subst hin
      have hin1 : ¬ (i : Int) < (i : Int) := by omega
      have f8 := fun z : Later wr => ((G.out.2.below hB).below z.below).var.tR
      rw [E.out.1] at f8
      have f0 := fun z : Later wr => ((G.out.1.below hB).below z.below).var.tnum (j := 0) (k := .u64) rfl
      have P1 : Hid (∀ z : Later wr, _) := fun z : Later wr => rown_any h z.val
      have ev := E.out.2.1
      clear hB hcn
      by_cases hk : K = -1
      · have ec : cntK K i = 0 := by unfold cntK; rw [if_neg (by omega)]
        rw [ec]
        rw [show decide (K = -1) = true by simp [hk]] at ev
        clear ec hk
        go_wp2_with fail
        refine wp_region_later (by kernel_rfl) (by kernel_rfl) ?_
        repeat (go_big_quiet_step (first | exact rfl | (go_at_call 18; with_reducible exact Calls.later_of (P1.out _))))
        refine wpQuiet_nil ?_
        intro _ hw'
        obtain ⟨z, rfl⟩ := hw'
        clear f8 f0 ev c16
        go_wp2_with fail
        refine (awake_any z.val).mono ?_
        rintro _ X ⟨rfl, bX⟩
        have F : Hid (Below w.heap.size w X) := below_over (below_over (below_over G.out.1.bel JB.out) z.below) bX
        clear bX
        go_wp2
        go_ret
        exact ⟨rfl, F.out⟩
      · have ec : cntK K i = 1 := by unfold cntK; rw [if_pos (by have := E.out.2.2.1; omega)]
        rw [ec]
        rw [show decide (K = -1) = false by simp [hk]] at ev
        clear ec hk
        go_wp2_with fail
        refine wp_region_later (by kernel_rfl) (by kernel_rfl) ?_
        repeat (go_big_quiet_step (first | exact rfl | (go_at_call 18; with_reducible exact Calls.later_of (P1.out _))))
        refine wpQuiet_nil ?_
        intro _ hw'
        obtain ⟨z, rfl⟩ := hw'
        clear f8 f0 ev c16
        go_wp2_with fail
        refine (awake_any z.val).mono ?_
        rintro _ X ⟨rfl, bX⟩
        have F : Hid (Below w.heap.size w X) := below_over (below_over (below_over G.out.1.bel JB.out) z.below) bX
        clear bX
        go_wp2
        go_ret
        exact ⟨rfl, F.out⟩
end Go.Proofs.Ytnblhmicbhblpaa
