/-
  RolesFits: its walk, for every tree.
-/
import Derived.Test.YtnblhmicbhblpabLawS
namespace Go.Proofs.Ytnblhmicbhblpab
set_option linter.unusedVariables false
set_option maxRecDepth 4000
set_option linter.unusedSimpArgs false
open Go.RowKit

theorem sel_tel (H : Hd) (r : Bool) (p : Pt) {i : Nat} (hi : i ≠ 21 ∧ i ≠ 22 ∧ i ≠ 28 ∧ i ≠ 31) : (selP H r p).cl[i]? = (telP H p).cl[i]? := asg_still H r _ hi
theorem fit_own {H : Hd} {r : Bool} {p : Pt} (h : (selP H r p).nm 29 = 1 ∨ (selP H r p).nm 29 = 2) : (selP H r p).nm 31 = 4 := by
  rw [nm_of (sel_tel H r p (i := 29) (by omega))] at h
  rw [sel_31]
  unfold wanN
  rcases h with h | h
  · rw [if_pos h]
  · rw [if_neg (by omega), if_pos h]
theorem fit_dsg (H : Hd) (r : Bool) (p : Pt) : dsg (selP H r p) = dsg (telP H p) ∧ pri (selP H r p) = pri (telP H p) := ⟨dsg_of fun j hj => sel_tel H r p (by omega), pri_of fun j hj => sel_tel H r p (by omega)⟩
theorem fit_heard {H : Hd} {r : Bool} {p : Pt} (h : (selP H r p).nm 29 = 3) (h3 : ¬ (selP H r p).nm 31 = 3) : decide ((selP H r p).nm 31 = 4) = bet (dsg (selP H r p)) (pri (selP H r p)) := by
  rw [nm_of (sel_tel H r p (i := 29) (by omega))] at h
  obtain ⟨e1, e2⟩ := fit_dsg H r p
  rw [sel_31] at h3 ⊢
  rw [e1, e2]
  unfold wanN at h3 ⊢
  rw [if_neg (by omega), if_neg (by omega), if_pos h] at h3 ⊢
  unfold heaN at h3 ⊢
  cases r with
  | true => rw [if_pos rfl] at h3; omega
  | false =>
    rw [if_neg (by decide)] at h3 ⊢
    cases hb : bet (dsg (telP H p)) (pri (telP H p)) with
    | true => rw [if_pos rfl]; rfl
    | false =>
      rw [if_neg (by decide)]
      split <;> rfl
theorem fit_cells (H : Hd) (r : Bool) (p : Pt) : (selP H r p).nm 34 = H.nm 0 ∧ (selP H r p).nm 32 = H.nm 8 ∧ (selP H r p).nm 33 = H.nm 9 ∧ (selP H r p).nm 35 = (selP H r p).nm 0 := by
  have e : dsg (selP H r p) = desV H (rOf H) p := by rw [(fit_dsg H r p).1, tel_dsg]
  have c : ∀ j, j < 4 → (selP H r p).nm (32 + j) = (desV H (rOf H) p).nm j := fun j hj => by
    rw [← e]
    exact ((selP H r p).nm_sub 32 4 j hj).symm
  refine ⟨c 2 (by omega), (c 0 (by omega)).trans (H.nm_sub 8 4 0 (by omega)), (c 1 (by omega)).trans (H.nm_sub 8 4 1 (by omega)), (c 3 (by omega)).trans ?_⟩
  rw [(sel_kin H r p).nm still0]
  rfl
attribute [local go_sem ↓] ldP stP ldT stT ldV stV alP
attribute [local go_sem] alP_run
set_option maxHeartbeats 8000000 in
theorem RolesFits_walk (h : Hd) (a0 : Option Addr) (n0 c0 : Nat) (l0 : List Pt) (w : World) (hs : SlAt w a0 n0 c0 l0) :
    Calls Try.prog 3 #[.agg (trc h (.slice a0 n0 c0))] w fun r w' => r = .returned (.bool true) ∧ Below w.heap.size w w' := by
  obtain ⟨W, hW, r0, bW, zW⟩ := one_t w h (.slice a0 n0 c0)
  have t0 := r0.tld
  have H : Hid (SlAt W a0 n0 c0 l0 ∧ Below w.heap.size w W) := ⟨hs.below bW, bW⟩
  clear hs r0 bW zW
  go_enter Try.func3, Try.ntmps3
  go_wp2_with fail
  refine (few_any h a0 n0 c0 l0 W H.out.1).mono ?_
  rintro _ W1 ⟨n, rfl, hn, s1, b1⟩
  obtain ⟨l, hl⟩ : ∃ l, l0.take 12 = l := ⟨_, rfl⟩
  rw [hl] at s1
  have hn1 : n ≤ 1000 := by omega
  have H1 : Hid (SlAt W1 a0 n c0 l ∧ Below w.heap.size w W1) := ⟨s1, below_over H.out.2 b1⟩
  clear s1 b1 t0 H hW hl
  go_wp2_with fail
  refine (select_any h a0 n c0 l W1 H1.out.1 hn1).mono ?_
  rintro _ V1 ⟨a1, c1, rfl, s1, b1⟩
  have HL : Hid (l.length = n) := H1.out.1.len
  have E : Hid ((selL h l).length = n ∧ ∀ i, i < n → ((gtP (selL h l) i).bt 21 = false ∧ (gtP (selL h l) i).bt 22 = true ∧ ((gtP (selL h l) i).nm 29 = 1 ∨ (gtP (selL h l) i).nm 29 = 2 → (gtP (selL h l) i).nm 31 = 4) ∧ ((gtP (selL h l) i).nm 29 = 3 → ¬ (gtP (selL h l) i).nm 31 = 3 → decide ((gtP (selL h l) i).nm 31 = 4) = bet (dsg (gtP (selL h l) i)) (pri (gtP (selL h l) i))) ∧ (gtP (selL h l) i).nm 34 = (hdS h l).nm 0 ∧ (gtP (selL h l) i).nm 32 = (hdS h l).nm 8 ∧ (gtP (selL h l) i).nm 33 = (hdS h l).nm 9 ∧ (gtP (selL h l) i).nm 35 = (gtP (selL h l) i).nm 0)) := by
    refine ⟨by rw [selL_len, HL.out], fun i hi => ?_⟩
    rw [sel_at h l (by rw [HL.out]; exact hi)]
    exact ⟨sel_21 _ _ _, sel_22 _ _ _, fit_own, fit_heard, fit_cells _ _ _⟩
  obtain ⟨hS, hhS⟩ : ∃ z, hdS h l = z := ⟨_, rfl⟩
  obtain ⟨lS, hlS⟩ : ∃ z, selL h l = z := ⟨_, rfl⟩
  rw [hhS, hlS] at E
  rw [hlS] at s1
  rw [hhS]
  clear hhS hlS
  obtain ⟨V, sV, t2, b2⟩ := TQ.new (w := w) (h := hS) s1 (below_over H1.out.2 b1)
  obtain ⟨sb, hsb⟩ : ∃ z, V1.heap.size = z := ⟨_, rfl⟩
  rw [hsb] at sV t2
  have G : Hid (TQ w V sb hS a1 n c1 lS) := t2
  clear s1 b1 t2 b2 H1 hn
  go_wp2_with fail
  clear sV
  go_loopw [4] (fun v4 wr => ∃ i : Nat, i ≤ n ∧ v4 = .int .i64 i ∧ Below V.heap.size V wr) (fun v4 _ => n - (intOf v4).toNat)
  case atStart => exact ⟨0, by omega, rfl, Below.refl _ _⟩
  case round =>
    obtain ⟨i, hi, rfl, hB⟩ := hrel
    have hin0 : (0 : Int) ≤ (i : Int) := by omega
    have T1 := G.out.below hB
    have c16 := T1.var.t16
    by_cases hit : i < n
    · have hin1 : (i : Int) < (n : Int) := by omega
      have hil : i < lS.length := by rw [E.out.1]; exact hit
      obtain ⟨b, o, rfl⟩ := T1.sl.some' (by omega)
      have lp := T1.sl.ld (gtP_at hil)
      obtain ⟨E21, E22, EO, EH, E34, E32, E33, E35⟩ := E.out.2 i hit
      obtain ⟨q, hq⟩ : ∃ q, gtP lS i = q := ⟨_, rfl⟩
      rw [hq] at lp E21 E22 EO EH E34 E32 E33 E35
      obtain ⟨Y, sY, rY, bY, zY⟩ := new_pv wr q
      obtain ⟨pb, hpb⟩ : ∃ z, wr.heap.size = z := ⟨_, rfl⟩
      rw [hpb] at sY rY
      have J : Hid (TQ w Y sb hS (some ⟨b, o, none⟩) n c1 lS ∧ RvAt Y pb 40 q.cs ∧ Below V.heap.size V Y) := ⟨T1.below bY, rY, below_over hB bY⟩
      have P1 : Hid (∀ z : Later Y, _) := fun z : Later Y => betref_row (dsg q) (pri q) z.val
      have d29 := rY.num (j := 29) (k := .i64) rfl
      have d31 := rY.num (j := 31) (k := .i64) rfl
      have d21 := rY.bit (j := 21) rfl
      have d22 := rY.bit (j := 22) rfl
      rw [E21] at d21
      rw [E22] at d22
      have f29 := fun z : Later Y => (rY.below z.below).num (j := 29) (k := .i64) rfl
      have f31 := fun z : Later Y => (rY.below z.below).num (j := 31) (k := .i64) rfl
      have f32 := fun z : Later Y => (rY.below z.below).pdsg
      have f36 := fun z : Later Y => (rY.below z.below).ppri
      have g34 := fun z : Later Y => (rY.below z.below).num (j := 34) (k := .u64) rfl
      have g32 := fun z : Later Y => (rY.below z.below).num (j := 32) (k := .u64) rfl
      have g33 := fun z : Later Y => (rY.below z.below).num (j := 33) (k := .u32) rfl
      have g35 := fun z : Later Y => (rY.below z.below).num (j := 35) (k := .u16) rfl
      have g0 := fun z : Later Y => (rY.below z.below).num (j := 0) (k := .u16) rfl
      have s0 := fun z : Later Y => (J.out.1.below z.below).var.tnum (j := 0) (k := .u64) rfl
      have s8 := fun z : Later Y => (J.out.1.below z.below).var.tnum (j := 8) (k := .u64) rfl
      have s9 := fun z : Later Y => (J.out.1.below z.below).var.tnum (j := 9) (k := .u32) rfl
      rw [E34] at g34
      rw [E32] at g32
      rw [E33] at g33
      rw [E35] at g35
      clear E21 E22 E34 E32 E33 E35 T1 hB rY bY zY hq hil
      obtain ⟨N9, h9⟩ : ∃ z, q.nm 29 = z := ⟨_, rfl⟩
      obtain ⟨N1, h1⟩ : ∃ z, q.nm 31 = z := ⟨_, rfl⟩
      obtain ⟨B, hb⟩ : ∃ z, bet (dsg q) (pri q) = z := ⟨_, rfl⟩
      rw [h9] at d29 f29 EO EH
      rw [h1] at d31 f31 EO EH
      rw [hb] at P1 EH
      clear h9 h1 hb
      have QO : Hid (N9 = 1 ∨ N9 = 2 → N1 = 4) := EO
      have QH : Hid (N9 = 3 → ¬ N1 = 3 → decide (N1 = 4) = B) := EH
      clear EO EH
      by_cases k2 : N9 = 2
      · have k4 := QO.out (Or.inr k2)
        subst k2
        subst k4
        go_wp2_with fail
        refine wp_region_later (by kernel_rfl) (by kernel_rfl) ?_
        repeat (go_big_quiet_step (first | exact rfl | (go_at_call 6; with_reducible exact Calls.later_of (P1.out _))))
        refine wpQuiet_nil ?_
        intro _ hw'
        obtain ⟨z, rfl⟩ := hw'
        clear d29 d31 d21 d22 f29 f31 f32 f36 sY lp
        go_wp2
        go_roundw
        case rel => exact ⟨i + 1, by omega, by go_num, below_over J.out.2.2 z.below⟩
        case measure => simp [intOf]; omega
      · by_cases k1 : N9 = 1
        · have k4 := QO.out (Or.inl k1)
          subst k1
          subst k4
          go_wp2_with fail
          refine wp_region_later (by kernel_rfl) (by kernel_rfl) ?_
          repeat (go_big_quiet_step (first | exact rfl | (go_at_call 6; with_reducible exact Calls.later_of (P1.out _))))
          refine wpQuiet_nil ?_
          intro _ hw'
          obtain ⟨z, rfl⟩ := hw'
          clear d29 d31 d21 d22 f29 f31 f32 f36 sY lp
          go_wp2
          go_roundw
          case rel => exact ⟨i + 1, by omega, by go_num, below_over J.out.2.2 z.below⟩
          case measure => simp [intOf]; omega
        · have kb2 : (N9 == 2) = false := by simpa using k2
          have kb1 : (N9 == 1) = false := by simpa using k1
          by_cases k3 : N9 = 3
          · subst k3
            by_cases m3 : N1 = 3
            · subst m3
              go_wp2_with fail
              refine wp_region_later (by kernel_rfl) (by kernel_rfl) ?_
              repeat (go_big_quiet_step (first | exact rfl | (go_at_call 6; with_reducible exact Calls.later_of (P1.out _))))
              refine wpQuiet_nil ?_
              intro _ hw'
              obtain ⟨z, rfl⟩ := hw'
              clear d29 d31 d21 d22 f29 f31 f32 f36 sY lp
              go_wp2
              go_roundw
              case rel => exact ⟨i + 1, by omega, by go_num, below_over J.out.2.2 z.below⟩
              case measure => simp [intOf]; omega
            · have mb3 : (N1 == 3) = false := by simpa using m3
              have mb3' : (N1 != 3) = true := by simpa using m3
              have QB := QH.out rfl m3
              by_cases m4 : N1 = 4
              · subst m4
                have QB' : B = true := QB.symm
                subst QB'
                clear QB
                go_wp2_with fail
                refine wp_region_later (by kernel_rfl) (by kernel_rfl) ?_
                repeat (go_big_quiet_step (first | exact rfl | (go_at_call 6; with_reducible exact Calls.later_of (P1.out _))))
                refine wpQuiet_nil ?_
                intro _ hw'
                obtain ⟨z, rfl⟩ := hw'
                clear d29 d31 d21 d22 f29 f31 f32 f36 sY lp
                go_wp2
                go_roundw
                case rel => exact ⟨i + 1, by omega, by go_num, below_over J.out.2.2 z.below⟩
                case measure => simp [intOf]; omega
              · have mb4 : (N1 == 4) = false := by simpa using m4
                have QB' : B = false := by rw [← QB]; simpa using m4
                subst QB'
                clear QB
                go_wp2_with fail
                refine wp_region_later (by kernel_rfl) (by kernel_rfl) ?_
                repeat (go_big_quiet_step (first | exact rfl | (go_at_call 6; with_reducible exact Calls.later_of (P1.out _))))
                refine wpQuiet_nil ?_
                intro _ hw'
                obtain ⟨z, rfl⟩ := hw'
                clear d29 d31 d21 d22 f29 f31 f32 f36 sY lp
                go_wp2
                go_roundw
                case rel => exact ⟨i + 1, by omega, by go_num, below_over J.out.2.2 z.below⟩
                case measure => simp [intOf]; omega
          · have kb3 : (N9 == 3) = false := by simpa using k3
            go_wp2_with fail
            refine wp_region_later (by kernel_rfl) (by kernel_rfl) ?_
            repeat (go_big_quiet_step (first | exact rfl | (go_at_call 6; with_reducible exact Calls.later_of (P1.out _))))
            refine wpQuiet_nil ?_
            intro _ hw'
            obtain ⟨z, rfl⟩ := hw'
            clear d29 d31 d21 d22 f29 f31 f32 f36 sY lp
            go_wp2
            go_roundw
            case rel => exact ⟨i + 1, by omega, by go_num, below_over J.out.2.2 z.below⟩
            case measure => simp [intOf]; omega
    · have hin : i = n := by omega
      subst hin
      have hin1 : ¬ (i : Int) < (i : Int) := by omega
      have K : Hid (Below w.heap.size w wr) := below_over G.out.bel hB
      clear T1 hB
      go_wp2_with fail
      refine (awake_any wr).mono ?_
      rintro _ X ⟨rfl, bX⟩
      have F : Hid (Below w.heap.size w X) := below_over K.out bX
      clear bX c16
      go_wp2
      go_ret
      exact ⟨rfl, F.out⟩
end Go.Proofs.Ytnblhmicbhblpab
