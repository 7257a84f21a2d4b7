/-
  RootOf and the definition's: their walks, for every tree.
-/
import Derived.Test.YtnblhmicbhblpaaRt
namespace Go.Proofs.Ytnblhmicbhblpaa
set_option linter.unusedVariables false
set_option maxRecDepth 4000
set_option linter.unusedSimpArgs false
open Go.RowKit

attribute [local go_sem ↓] ldP stP ldT stT ldV stV alP
attribute [local go_sem] alP_run
set_option maxHeartbeats 8000000 in
theorem rootof_any (h : Hd) (a : Option Addr) (n c : Nat) (l : List Pt) (w : World) (hs : SlAt w a n c l) (hn : n ≤ 1000) :
    Calls Try.prog 10 #[.agg (trc h (.slice a n c))] w fun r w' => r = .returned (.tuple #[.agg (rooV h l).cs, .int .i64 (rooK h l)]) ∧ Below w.heap.size w w' := by
  obtain ⟨W, hW, r0, r1, bW, zW⟩ := two_tv w h (.slice a n c)
  have c0 := r0.tnum (j := 0) (k := .u64) rfl
  have H : Hid (RvAt W w.heap.size 31 (trc h (.slice a n c)) ∧ RvAt W (w.heap.size + 1) 28 zeroVc.cs ∧ SlAt W a n c l ∧ Below w.heap.size w W ∧ W.heap.size = w.heap.size + 2 ∧ l.length = n) := ⟨r0, r1, hs.below bW, bW, zW, hs.len⟩
  clear hs r0 r1 bW zW
  have NN : Hid (rtF h l n = (rooV h l, rooK h l)) := by unfold rooV rooK; rw [H.out.2.2.2.2.2]; exact rfl
  obtain ⟨RV, hRV⟩ : ∃ z, rooV h l = z := ⟨_, rfl⟩
  obtain ⟨RK, hRK⟩ : ∃ z, rooK h l = z := ⟨_, rfl⟩
  rw [hRV, hRK] at NN ⊢
  clear hRV hRK
  go_enter Try.func10, Try.ntmps10
  go_wp2_with fail
  go_step3
  go_wp2_with fail
  refine (own_any h W).mono ?_
  rintro _ W1 ⟨rfl, b1⟩
  obtain ⟨W2, s2, r2, b2, z2⟩ := new_v W1 (ownV h)
  have S2 : Hid (RS w W2 w.heap.size (w.heap.size + 1) W1.heap.size h a n c l (ownV h)) := ⟨(H.out.1.below b1).below b2, (H.out.2.1.below b1).below b2, r2, (H.out.2.2.1.below b1).below b2, below_over (below_over H.out.2.2.2.1 b1) b2, Nat.le_refl _, by omega, by have := H.out.2.2.2.2.1; have := b1.size; omega, by have := H.out.2.2.2.2.1; have := b1.size; omega, by have := H.out.2.2.2.2.1; have := b1.size; omega⟩
  obtain ⟨e, he⟩ : ∃ e, W1.heap.size = e := ⟨_, rfl⟩
  rw [he] at s2 S2
  have HL : Hid (l.length = n) := H.out.2.2.2.2.2
  have d16 := S2.out.var.t16
  clear r2 b2 z2 b1 H c0 hW
  go_wp2_with fail
  go_step3
  go_wp2_with fail
  go_loopw [5, 15] (fun v5 v15 wr => ∃ (i : Nat) (v : Vc) (k : Int), i ≤ n ∧ v15 = .int .i64 i ∧ v5 = .int .i64 k ∧ rtF h l i = (v, k) ∧ RS w wr w.heap.size (w.heap.size + 1) e h a n c l v) (fun _ v15 _ => n - (intOf v15).toNat)
  case atStart => exact ⟨0, ownV h, -1, by omega, rfl, rfl, rfl, S2.out⟩
  case round =>
    obtain ⟨i, v, k, hi, rfl, rfl, hF, hS⟩ := hrel
    have hin0 : (0 : Int) ≤ (i : Int) := by omega
    by_cases hit : i < n
    · have hin1 : (i : Int) < (n : Int) := by omega
      obtain ⟨b, o, rfl⟩ := hS.sl.some' (by omega)
      have hl := gtP_at (l := l) (i := i) (by rw [HL.out]; exact hit)
      have lp := hS.sl.ld hl
      have hno := rtF_no hF
      have hyes := rtF_yes hF
      have hkr := rtF_range h l i
      rw [hF] at hkr
      simp only at hkr
      obtain ⟨p, hp⟩ : ∃ p, gtP l i = p := ⟨_, rfl⟩
      rw [hp] at lp hno hyes
      obtain ⟨V, sV, rV, bV, zV⟩ := new_pv wr p
      have T : Hid (RS w V w.heap.size (w.heap.size + 1) e h (some ⟨b, o, none⟩) n c l v ∧ RvAt V wr.heap.size 47 p.cs ∧ (-1 ≤ k ∧ k < i)) := ⟨hS.below bV, rV, hkr⟩
      have lt := T.out.1.var.tld
      have lpv := T.out.2.1.pld
      have NO : Hid (_ → _) := hno
      have YES : Hid (_ → _) := hyes
      clear hS hl hp hno hyes rV bV zV hF hkr d16
      obtain ⟨pb, hpb⟩ : ∃ z, wr.heap.size = z := ⟨_, rfl⟩
      rw [hpb] at T lpv sV
      go_wp2_with fail
      refine (leads_any h _ p V).mono ?_
      rintro _ V1 ⟨rfl, b1⟩
      have T1 : Hid (RS w V1 w.heap.size (w.heap.size + 1) e h (some ⟨b, o, none⟩) n c l v ∧ RvAt V1 pb 47 p.cs ∧ (-1 ≤ k ∧ k < i)) := ⟨T.out.1.below b1, T.out.2.1.below b1, T.out.2.2⟩
      have c36 := T1.out.2.1.ppri
      have c1 := T1.out.2.1.num (j := 1) (k := .u32) rfl
      clear T b1 lt lpv sV lp hpb
      cases hB : ldB h p
      · rw [hB] at NO YES
        have NO1 : Hid (rtF h l (i + 1) = (v, k)) := NO.out rfl
        clear NO YES hB
        go_wp2
        go_roundw
        case rel => exact ⟨i + 1, v, k, by omega, by go_num, rfl, NO1.out, T1.out.1⟩
        case measure => simp [intOf]; omega
      rw [hB] at NO YES
      clear hB
      go_wp2_with fail
      refine (add_any p V1).mono ?_
      rintro _ V2 ⟨rfl, b2⟩
      obtain ⟨u, hu⟩ : ∃ u, addV p = u := ⟨_, rfl⟩
      rw [hu] at NO YES ⊢
      clear hu
      obtain ⟨V3, s3, r3, b3, z3⟩ := new_v V2 u
      have T3 : Hid (RS w V3 w.heap.size (w.heap.size + 1) e h (some ⟨b, o, none⟩) n c l v ∧ RvAt V3 pb 47 p.cs ∧ (-1 ≤ k ∧ k < i) ∧ RvAt V3 V2.heap.size 28 u.cs) := ⟨(T1.out.1.below b2).below b3, (T1.out.2.1.below b2).below b3, T1.out.2.2, r3⟩
      obtain ⟨cb, hcb⟩ : ∃ z, V2.heap.size = z := ⟨_, rfl⟩
      rw [hcb] at T3 s3
      have lu := T3.out.2.2.2.vld
      have lv := T3.out.1.root.vld
      clear T1 c36 c1 r3 b3 z3 b2
      go_wp2_with fail
      refine (compare_row u v V3).mono ?_
      rintro _ V4 ⟨rfl, b4⟩
      have T4 : Hid (RS w V4 w.heap.size (w.heap.size + 1) e h (some ⟨b, o, none⟩) n c l v ∧ RvAt V4 pb 47 p.cs ∧ (-1 ≤ k ∧ k < i) ∧ RvAt V4 cb 28 u.cs) := ⟨T3.out.1.below b4, T3.out.2.1.below b4, T3.out.2.2.1, T3.out.2.2.2.below b4⟩
      clear T3 lu lv s3 b4 hcb
      obtain ⟨N, hN⟩ : ∃ N, cmp u v = N := ⟨_, rfl⟩
      rw [show cmpV (v4 u) (v4 v) = N from hN]
      have IN : Hid (N = -1 ∨ N = 0 ∨ N = 1) := by rw [← hN]; exact cmp_in u v
      have EN : Hid (cmp u v = N) := hN
      clear hN
      have lu := T4.out.2.2.2.vld
      obtain ⟨V5, s5, S5⟩ := T4.out.1.st u
      have HS5 : Hid (RS w V5 w.heap.size (w.heap.size + 1) e h (some ⟨b, o, none⟩) n c l u) := S5
      clear S5
      rcases IN.out with rfl | rfl | rfl
      · have Y : Hid (rtF h l (i + 1) = (u, (i : Int))) := YES.out (tk_less EN.out)
        clear YES NO
        go_wp2
        go_roundw
        case rel => exact ⟨i + 1, u, i, by omega, by go_num, rfl, Y.out, HS5.out⟩
        case measure => simp [intOf]; omega
      · by_cases hk : k = -1
        · have N1 : Hid (rtF h l (i + 1) = (v, k)) := NO.out (by rw [hk]; exact tk_own EN.out)
          clear YES NO
          subst hk
          clear s5 HS5 lu
          have f0 := fun q : Later V4 => (T4.out.2.1.below q.below).num (j := 0) (k := .u16) rfl
          go_wp2_with fail
          refine wp_region_later (by kernel_rfl) (by kernel_rfl) ?_
          repeat (go_big_quiet_step (first | exact rfl))
          refine wpQuiet_nil ?_
          intro _ hw'
          obtain ⟨z, rfl⟩ := hw'
          clear f0
          go_wp2
          go_roundw
          case rel => exact ⟨i + 1, v, -1, by omega, by go_num, rfl, N1.out, T4.out.1.below z.below⟩
          case measure => simp [intOf]; omega
        · have hk0 : 0 ≤ k := by have := T4.out.2.2.1; omega
          obtain ⟨kn, rfl⟩ := Int.eq_ofNat_of_zero_le hk0
          have hkn : kn < n := by have := T4.out.2.2.1; omega
          have hk1 : (kn : Int) < (n : Int) := by omega
          have hkb : ((kn : Int) == -1) = false := by simp
          have f0 := fun q : Later V4 => (T4.out.2.1.below q.below).num (j := 0) (k := .u16) rfl
          have f16 := fun q : Later V4 => (T4.out.1.var.below q.below).t16
          have hlk := gtP_at (l := l) (i := kn) (by rw [HL.out]; exact hkn)
          have fk := fun q : Later V4 => (T4.out.1.sl.below q.below).cell hlk ((gtP l kn).num (j := 0) (k := .u16) rfl) (by omega)
          simp only [Nat.add_zero] at fk
          have YY : Hid (p.nm 0 < (gtP l kn).nm 0 → rtF h l (i + 1) = (u, (i : Int))) := fun hx => YES.out (tk_yes EN.out hx)
          have NY : Hid (¬ p.nm 0 < (gtP l kn).nm 0 → rtF h l (i + 1) = (v, (kn : Int))) := fun hx => NO.out (tk_no EN.out hx)
          clear NO YES
          obtain ⟨kid, hkid⟩ : ∃ z, (gtP l kn).nm 0 = z := ⟨_, rfl⟩
          obtain ⟨pid, hpid⟩ : ∃ z, p.nm 0 = z := ⟨_, rfl⟩
          rw [hkid] at fk YY NY
          rw [hpid] at f0 YY NY
          clear hkid hpid hlk
          by_cases hlt : pid < kid
          · have Y : Hid (rtF h l (i + 1) = (u, (i : Int))) := YY.out hlt
            have hge : ¬ kid ≤ pid := by omega
            clear YY NY
            have HLU : Hid (RvAt V4 cb 28 u.cs) := T4.out.2.2.2
            clear lu s5 HS5
            go_wp2_with fail
            refine wp_region_later (by kernel_rfl) (by kernel_rfl) ?_
            repeat (go_big_quiet_step (first | exact rfl))
            refine wpQuiet_nil ?_
            intro _ hw'
            obtain ⟨z, rfl⟩ := hw'
            clear f0 f16 fk
            have lu := (HLU.out.below z.below).vld
            obtain ⟨V5, s5, S5⟩ := (T4.out.1.below z.below).st u
            have HS5 : Hid (RS w V5 w.heap.size (w.heap.size + 1) e h (some ⟨b, o, none⟩) n c l u) := S5
            clear S5
            go_wp2
            go_roundw
            case rel => exact ⟨i + 1, u, i, by omega, by go_num, rfl, Y.out, HS5.out⟩
            case measure => simp [intOf]; omega
          · have N1 : Hid (rtF h l (i + 1) = (v, (kn : Int))) := NY.out hlt
            have hge : kid ≤ pid := by omega
            clear YY NY lu s5 HS5
            go_wp2_with fail
            refine wp_region_later (by kernel_rfl) (by kernel_rfl) ?_
            repeat (go_big_quiet_step (first | exact rfl))
            refine wpQuiet_nil ?_
            intro _ hw'
            obtain ⟨z, rfl⟩ := hw'
            clear f0 f16 fk
            go_wp2
            go_roundw
            case rel => exact ⟨i + 1, v, kn, by omega, by go_num, rfl, N1.out, T4.out.1.below z.below⟩
            case measure => simp [intOf]; omega
      · have N1 : Hid (rtF h l (i + 1) = (v, k)) := NO.out (tk_more EN.out)
        clear YES NO s5 HS5
        go_wp2
        go_roundw
        case rel => exact ⟨i + 1, v, k, by omega, by go_num, rfl, N1.out, T4.out.1⟩
        case measure => simp [intOf]; omega
    · have hin : i = n := by omega
      subst hin
      have hin1 : ¬ (i : Int) < (i : Int) := by omega
      rw [NN.out] at hF
      obtain ⟨rfl, rfl⟩ : RV = v ∧ RK = k := by simpa using hF
      have lv := hS.root.vld
      obtain ⟨U, sU, rU, bU⟩ := hS.tell
      have F : Hid (RvAt U (w.heap.size + 1) 28 RV.cs ∧ Below w.heap.size w U) := ⟨rU, bU⟩
      clear hS rU bU hF
      go_wp2_with (with_reducible exact ret_vi Try.results10 (by with_unfolding_all rfl) (by with_unfolding_all rfl) (by with_unfolding_all rfl) F.out.1 ⟨rfl, F.out.2⟩)
end Go.Proofs.Ytnblhmicbhblpaa
