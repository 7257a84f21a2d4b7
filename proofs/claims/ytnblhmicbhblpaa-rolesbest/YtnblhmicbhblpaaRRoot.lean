/-
  The definition's RootOf: its walk, for every tree.
-/
import Derived.Test.YtnblhmicbhblpaaRt
namespace Go.Proofs.Ytnblhmicbhblpaa
set_option linter.unusedVariables false
set_option maxRecDepth 4000
set_option linter.unusedSimpArgs false
open Go.RowKit

attribute [local go_sem ↓] ldP stP ldT stT ldV stV eqgV eqlV
set_option maxHeartbeats 8000000 in
theorem rroot_any (h : Hd) (a : Option Addr) (n c : Nat) (l : List Pt) (w : World) (hs : SlAt w a n c l) (hn : n ≤ 1000) :
    Calls Try.prog 11 #[.agg (trc h (.slice a n c))] w fun r w' => r = .returned (.tuple #[.agg (rooV h l).cs, .int .i64 (rooK h l)]) ∧ Below w.heap.size w w' := by
  obtain ⟨W, hW, r0, r1, bW, zW⟩ := two_tv w h (.slice a n c)
  have c0 := r0.tnum (j := 0) (k := .u64) rfl
  have H : Hid (RvAt W w.heap.size 31 (trc h (.slice a n c)) ∧ RvAt W (w.heap.size + 1) 28 zeroVc.cs ∧ SlAt W a n c l ∧ Below w.heap.size w W ∧ W.heap.size = w.heap.size + 2 ∧ l.length = n) := ⟨r0, r1, hs.below bW, bW, zW, hs.len⟩
  clear hs r0 r1 bW zW
  have NN : Hid (rtF h l n = (rooV h l, rooK h l)) := by unfold rooV rooK; rw [H.out.2.2.2.2.2]; exact rfl
  obtain ⟨RV, hRV⟩ : ∃ z, rooV h l = z := ⟨_, rfl⟩
  obtain ⟨RK, hRK⟩ : ∃ z, rooK h l = z := ⟨_, rfl⟩
  rw [hRV, hRK] at NN ⊢
  clear hRV hRK
  go_enter Try.func11, Try.ntmps11
  go_wp2_with fail
  refine (rown_any h W).mono ?_
  rintro _ W1 ⟨rfl, b1⟩
  obtain ⟨W2, s2, r2, b2, z2⟩ := new_v W1 (ownV h)
  have S2 : Hid (RS w W2 w.heap.size (w.heap.size + 1) W1.heap.size h a n c l (ownV h)) := ⟨(H.out.1.below b1).below b2, (H.out.2.1.below b1).below b2, r2, (H.out.2.2.1.below b1).below b2, below_over (below_over H.out.2.2.2.1 b1) b2, Nat.le_refl _, by omega, by have := H.out.2.2.2.2.1; have := b1.size; omega, by have := H.out.2.2.2.2.1; have := b1.size; omega, by have := H.out.2.2.2.2.1; have := b1.size; omega⟩
  obtain ⟨e, he⟩ : ∃ e, W1.heap.size = e := ⟨_, rfl⟩
  rw [he] at s2 S2
  have HL : Hid (l.length = n) := H.out.2.2.2.2.2
  clear r2 b2 z2 b1 H c0 hW
  go_wp2_with fail
  go_loopw [5, 6] (fun v5 v6 wr => ∃ (i : Nat) (v : Vc) (k : Int), i ≤ n ∧ v6 = .int .i64 i ∧ v5 = .int .i64 k ∧ rtF h l i = (v, k) ∧ RS w wr w.heap.size (w.heap.size + 1) e h a n c l v) (fun _ v6 _ => n - (intOf v6).toNat)
  case atStart => exact ⟨0, ownV h, -1, by omega, rfl, rfl, rfl, S2.out⟩
  case round =>
    obtain ⟨i, v, k, hi, rfl, rfl, hF, hS⟩ := hrel
    have hin0 : (0 : Int) ≤ (i : Int) := by omega
    have d16 := hS.var.t16
    by_cases hit : i < n
    · have hin1 : (i : Int) < (n : Int) := by omega
      obtain ⟨b, o, rfl⟩ := hS.sl.some' (by omega)
      have hno := rtF_no hF
      have hyes := rtF_yes hF
      have hkr := rtF_range h l i
      rw [hF] at hkr
      simp only at hkr
      obtain ⟨p, hp⟩ : ∃ p, gtP l i = p := ⟨_, rfl⟩
      have T : Hid (RS w wr w.heap.size (w.heap.size + 1) e h (some ⟨b, o, none⟩) n c l v ∧ gtP l i = p ∧ (-1 ≤ k ∧ k < i)) := ⟨hS, hp, hkr⟩
      rw [hp] at hno hyes
      have lt := hS.var.tld
      have NO : Hid (_ → _) := hno
      have YES : Hid (_ → _) := hyes
      clear hS hp hno hyes hF hkr
      go_wp2_with fail
      refine (cand_any h _ n c i l wr T.out.1.sl hn hit).mono ?_
      rintro _ V1 ⟨rfl, b1⟩
      rw [T.out.2.1]
      obtain ⟨V3, s3, r3, b3, z3⟩ := new_v V1 (canV h p)
      obtain ⟨cb, hcb⟩ : ∃ z, V1.heap.size = z := ⟨_, rfl⟩
      rw [hcb] at s3 r3
      have T1 : Hid (RS w V3 w.heap.size (w.heap.size + 1) e h (some ⟨b, o, none⟩) n c l v ∧ gtP l i = p ∧ (-1 ≤ k ∧ k < i) ∧ RvAt V3 cb 28 (canV h p).cs) := ⟨(T.out.1.below b1).below b3, T.out.2.1, T.out.2.2, r3⟩
      clear T b1 lt r3 b3 z3 d16
      cases hB : ldB h p
      · rw [hB] at NO YES
        have NO1 : Hid (rtF h l (i + 1) = (v, k)) := NO.out rfl
        clear NO YES hB
        go_wp2
        go_roundw
        case rel => exact ⟨i + 1, v, k, by omega, by go_num, rfl, NO1.out, T1.out.1⟩
        case measure => simp [intOf]; omega
      have hcan : canV h p = addV p := by unfold canV; rw [if_pos hB]
      rw [hB] at NO YES
      rw [hcan] at T1 s3 ⊢
      clear hB hcan
      obtain ⟨u, hu⟩ : ∃ u, addV p = u := ⟨_, rfl⟩
      rw [hu] at NO YES T1 s3 ⊢
      clear hu
      obtain ⟨N, hN⟩ : ∃ N, cmp u v = N := ⟨_, rfl⟩
      have IN : Hid (N = -1 ∨ N = 0 ∨ N = 1) := by rw [← hN]; exact cmp_in u v
      have EN : Hid (cmp u v = N) := hN
      have P1 : Hid (∀ q : Later V3, _) := fun q : Later V3 => betref_row u v q.val
      rw [bet_cmp, hN] at P1
      have EV : Hid (u.eq v = decide (N = 0)) := by
        have : u.eq v = decide (N = 0) := by
          rw [Bool.eq_iff_iff, Row.eq_iff, ← cmp_zero, hN]
          simp
        exact this
      clear hN
      have lu := fun q : Later V3 => (T1.out.2.2.2.below q.below).vld
      have lv := fun q : Later V3 => (T1.out.1.root.below q.below).vld
      have f16 := fun q : Later V3 => (T1.out.1.var.below q.below).t16
      rcases IN.out with rfl | rfl | rfl
      · have Y : Hid (rtF h l (i + 1) = (u, (i : Int))) := YES.out (tk_less EN.out)
        have ev := EV.out
        rw [show decide ((-1 : Int) = 0) = false from rfl] at ev
        rw [show decide ((-1 : Int) = -1) = true from rfl] at P1
        clear YES NO EV
        go_wp2_with fail
        refine wp_region_later (by kernel_rfl) (by kernel_rfl) ?_
        repeat (go_big_quiet_step (first | exact rfl | (go_at_call 19; with_reducible exact Calls.later_of (P1.out _))))
        refine wpQuiet_nil ?_
        intro _ hw'
        obtain ⟨z, rfl⟩ := hw'
        clear lu lv f16
        have lu := (T1.out.2.2.2.below z.below).vld
        obtain ⟨V5, s5, S5⟩ := (T1.out.1.below z.below).st u
        have HS5 : Hid (RS w V5 w.heap.size (w.heap.size + 1) e h (some ⟨b, o, none⟩) n c l u) := S5
        clear S5
        go_wp2
        go_roundw
        case rel => exact ⟨i + 1, u, i, by omega, by go_num, rfl, Y.out, HS5.out⟩
        case measure => simp [intOf]; omega
      · have ev := EV.out
        rw [show decide ((0 : Int) = 0) = true from rfl] at ev
        rw [show decide ((0 : Int) = -1) = false from rfl] at P1
        by_cases hk : k = -1
        · have N1 : Hid (rtF h l (i + 1) = (v, k)) := NO.out (by rw [hk]; exact tk_own EN.out)
          clear YES NO EV
          subst hk
          go_wp2_with fail
          refine wp_region_later (by kernel_rfl) (by kernel_rfl) ?_
          repeat (go_big_quiet_step (first | exact rfl | (go_at_call 19; with_reducible exact Calls.later_of (P1.out _))))
          refine wpQuiet_nil ?_
          intro _ hw'
          obtain ⟨z, rfl⟩ := hw'
          clear lu lv f16
          go_wp2
          go_roundw
          case rel => exact ⟨i + 1, v, -1, by omega, by go_num, rfl, N1.out, T1.out.1.below z.below⟩
          case measure => simp [intOf]; omega
        · have hk0 : 0 ≤ k := by have := T1.out.2.2.1; omega
          obtain ⟨kn, rfl⟩ := Int.eq_ofNat_of_zero_le hk0
          have hkn : kn < n := by have := T1.out.2.2.1; omega
          have hk1 : (kn : Int) < (n : Int) := by omega
          have hlk := gtP_at (l := l) (i := kn) (by rw [HL.out]; exact hkn)
          have hli := gtP_at (l := l) (i := i) (by rw [HL.out]; exact hit)
          rw [T1.out.2.1] at hli
          have fk := fun q : Later V3 => (T1.out.1.sl.below q.below).cell hlk ((gtP l kn).num (j := 0) (k := .u16) rfl) (by omega)
          have f0 := fun q : Later V3 => (T1.out.1.sl.below q.below).cell hli (p.num (j := 0) (k := .u16) rfl) (by omega)
          simp only [Nat.add_zero] at fk f0
          have YY : Hid (p.nm 0 < (gtP l kn).nm 0 → rtF h l (i + 1) = (u, (i : Int))) := fun hx => YES.out (tk_yes EN.out hx)
          have NY : Hid (¬ p.nm 0 < (gtP l kn).nm 0 → rtF h l (i + 1) = (v, (kn : Int))) := fun hx => NO.out (tk_no EN.out hx)
          clear NO YES EV
          obtain ⟨kid, hkid⟩ : ∃ z, (gtP l kn).nm 0 = z := ⟨_, rfl⟩
          obtain ⟨pid, hpid⟩ : ∃ z, p.nm 0 = z := ⟨_, rfl⟩
          rw [hkid] at fk YY NY
          rw [hpid] at f0 YY NY
          clear hkid hpid hlk hli
          by_cases hlt : pid < kid
          · have Y : Hid (rtF h l (i + 1) = (u, (i : Int))) := YY.out hlt
            clear YY NY
            go_wp2_with fail
            refine wp_region_later (by kernel_rfl) (by kernel_rfl) ?_
            repeat (go_big_quiet_step (first | exact rfl | (go_at_call 19; with_reducible exact Calls.later_of (P1.out _))))
            refine wpQuiet_nil ?_
            intro _ hw'
            obtain ⟨z, rfl⟩ := hw'
            clear f0 fk f16 lu lv
            have lu := (T1.out.2.2.2.below z.below).vld
            obtain ⟨V5, s5, S5⟩ := (T1.out.1.below z.below).st u
            have HS5 : Hid (RS w V5 w.heap.size (w.heap.size + 1) e h (some ⟨b, o, none⟩) n c l u) := S5
            clear S5
            go_wp2
            go_roundw
            case rel => exact ⟨i + 1, u, i, by omega, by go_num, rfl, Y.out, HS5.out⟩
            case measure => simp [intOf]; omega
          · have N1 : Hid (rtF h l (i + 1) = (v, (kn : Int))) := NY.out hlt
            clear YY NY
            go_wp2_with fail
            refine wp_region_later (by kernel_rfl) (by kernel_rfl) ?_
            repeat (go_big_quiet_step (first | exact rfl | (go_at_call 19; with_reducible exact Calls.later_of (P1.out _))))
            refine wpQuiet_nil ?_
            intro _ hw'
            obtain ⟨z, rfl⟩ := hw'
            clear f0 fk f16 lu lv
            go_wp2
            go_roundw
            case rel => exact ⟨i + 1, v, kn, by omega, by go_num, rfl, N1.out, T1.out.1.below z.below⟩
            case measure => simp [intOf]; omega
      · have N1 : Hid (rtF h l (i + 1) = (v, k)) := NO.out (tk_more EN.out)
        have ev := EV.out
        rw [show decide ((1 : Int) = 0) = false from rfl] at ev
        rw [show decide ((1 : Int) = -1) = false from rfl] at P1
        clear YES NO EV
        go_wp2_with fail
        refine wp_region_later (by kernel_rfl) (by kernel_rfl) ?_
        repeat (go_big_quiet_step (first | exact rfl | (go_at_call 19; with_reducible exact Calls.later_of (P1.out _))))
        refine wpQuiet_nil ?_
        intro _ hw'
        obtain ⟨z, rfl⟩ := hw'
        clear lu lv f16
        go_wp2
        go_roundw
        case rel => exact ⟨i + 1, v, k, by omega, by go_num, rfl, N1.out, T1.out.1.below z.below⟩
        case measure => simp [intOf]; omega
    · have hin : i = n := by omega
      subst hin
      have hin1 : ¬ (i : Int) < (i : Int) := by omega
      rw [NN.out] at hF
      obtain ⟨rfl, rfl⟩ : RV = v ∧ RK = k := by simpa using hF
      have lv := hS.root.vld
      obtain ⟨U, sU, rU, bU⟩ := hS.tell
      have F : Hid (RvAt U (w.heap.size + 1) 28 RV.cs ∧ Below w.heap.size w U) := ⟨rU, bU⟩
      clear hS rU bU hF
      go_wp2_with (with_reducible exact ret_vi Try.results11 (by with_unfolding_all rfl) (by with_unfolding_all rfl) (by with_unfolding_all rfl) F.out.1 ⟨rfl, F.out.2⟩)
end Go.Proofs.Ytnblhmicbhblpaa
