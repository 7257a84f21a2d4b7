/-
  RolesBest: its walk, for every tree.
-/
import Derived.Test.YtnblhmicbhblpaaLOne
namespace Go.Proofs.Ytnblhmicbhblpaa
set_option linter.unusedVariables false
set_option maxRecDepth 4000
set_option linter.unusedSimpArgs false
open Go.RowKit

attribute [local go_sem ↓] ldT stT ldV stV eqgV eqlV
set_option maxHeartbeats 8000000 in
theorem RolesBest_walk (h : Hd) (a0 : Option Addr) (n0 c0 : Nat) (l0 : List Pt) (w : World) (hs : SlAt w a0 n0 c0 l0) :
    Calls Try.prog 7 #[.agg (trc h (.slice a0 n0 c0))] w fun r w' => r = .returned (.bool true) ∧ Below w.heap.size w w' := by
  obtain ⟨W, hW, r0, bW, zW⟩ := one_t w h (.slice a0 n0 c0)
  have t0 := r0.tld
  have H : Hid (SlAt W a0 n0 c0 l0 ∧ RvAt W w.heap.size 31 (trc h (.slice a0 n0 c0)) ∧ Below w.heap.size w W) := ⟨hs.below bW, r0, bW⟩
  clear hs r0 bW zW
  go_enter Try.func7, Try.ntmps7
  go_wp2_with fail
  refine (few_any h a0 n0 c0 l0 W H.out.1).mono ?_
  rintro _ W1 ⟨n, rfl, hn, s1, b1⟩
  obtain ⟨l, hl⟩ : ∃ l, l0.take 12 = l := ⟨_, rfl⟩
  rw [hl] at s1
  obtain ⟨V0, sV0, t⟩ := TQ.few (w := w) H.out.2.1 H.out.2.2 (Nat.le_refl _) b1 s1
  have T : Hid (TQ w V0 w.heap.size h a0 n c0 l) := t
  have lt := t.ld
  have hn1 : n ≤ 1000 := by omega
  clear s1 b1 t t0 H hW hl
  go_wp2_with fail
  refine (select_any h a0 n c0 l V0 T.out.sl hn1).mono ?_
  rintro _ V1 ⟨a1, c1, rfl, s1, b1⟩
  have HL : Hid (l.length = n) := T.out.sl.len
  have E : Hid (rOf (hdS h l) = rooV h l ∧ (rooV h l).eq (ownV h) = decide (rooK h l = -1) ∧ (-1 ≤ rooK h l ∧ rooK h l < n) ∧ bet (ownV h) (rooV h l) = false ∧ (∀ i, i < n → ldB h (gtP l i) = true → bet (addV (gtP l i)) (rooV h l) = false) ∧ (∀ i, i < n → (i : Int) = rooK h l → ldB h (gtP l i) = true ∧ addV (gtP l i) = rooV h l)) := by
    refine ⟨hdS_root h l, eq_own h l, ?_, best_own h l, fun i hi e => best_port h l (by rw [HL.out]; exact hi) e, fun i hi e => ?_⟩
    · have := rtF_range h l l.length
      rw [HL.out] at this
      unfold rooK
      rw [HL.out]
      exact this
    · rcases roo_form h l with ⟨h1, _⟩ | ⟨k, _, h1, h2, h3⟩
      · omega
      · have : i = k := by omega
        rw [this]
        exact ⟨h2, h3.symm⟩
  obtain ⟨hS, hhS⟩ : ∃ z, hdS h l = z := ⟨_, rfl⟩
  obtain ⟨K, hK⟩ : ∃ z, rooK h l = z := ⟨_, rfl⟩
  obtain ⟨v, hv⟩ : ∃ z, rooV h l = z := ⟨_, rfl⟩
  rw [hhS, hK, hv] at E
  rw [hhS]
  clear hhS hK hv
  obtain ⟨V, sV, t2, b2⟩ := TQ.new (w := w) (h := hS) s1 (below_over T.out.bel b1)
  obtain ⟨sb, hsb⟩ : ∃ z, V1.heap.size = z := ⟨_, rfl⟩
  rw [hsb] at sV t2
  have G : Hid (TQ w V w.heap.size h a0 n c0 l ∧ TQ w V sb hS a1 n c1 (selL h l)) := ⟨(T.out.below b1).below b2, t2⟩
  clear s1 b1 t2 b2 T lt
  have f0 := fun z : Later V => (G.out.1.below z.below).var.tnum (j := 0) (k := .u64) rfl
  have f8 := fun z : Later V => (G.out.2.below z.below).var.tR
  have f16 := fun z : Later V => (G.out.1.below z.below).var.t16
  have g16 := fun z : Later V => (G.out.2.below z.below).var.t16
  rw [E.out.1] at f8
  have P1 : Hid (∀ z : Later V, _) := fun z : Later V => rown_any h z.val
  have P2 : Hid (∀ z : Later V, _) := fun z : Later V => betref_row (ownV h) v z.val
  rw [E.out.2.2.2.1] at P2
  go_wp2_with fail
  refine wp_region_later (by kernel_rfl) (by kernel_rfl) ?_
  repeat (go_big_quiet_step (first | exact rfl | (go_at_call 18; with_reducible exact Calls.later_of (P1.out _)) | (go_at_call 19; with_reducible exact Calls.later_of (P2.out _))))
  refine wpQuiet_nil ?_
  intro _ hw'
  obtain ⟨z, rfl⟩ := hw'
  clear sV sV0 f0 f8 f16 g16 P1 P2
  obtain ⟨Y, hY⟩ : ∃ Y, z.val = Y := ⟨_, rfl⟩
  have GY : Hid (TQ w Y w.heap.size h a0 n c0 l ∧ TQ w Y sb hS a1 n c1 (selL h l)) := by
    rw [← hY]
    exact ⟨G.out.1.below z.below, G.out.2.below z.below⟩
  rw [hY]
  clear hY z G
  have f0 := fun z : Later Y => (GY.out.1.below z.below).var.tnum (j := 0) (k := .u64) rfl
  have f8 := fun z : Later Y => (GY.out.2.below z.below).var.tR
  rw [E.out.1] at f8
  have P1 : Hid (∀ z : Later Y, _) := fun z : Later Y => rown_any h z.val
  have ev := E.out.2.1
  obtain ⟨B0, hB0⟩ : ∃ B0, decide (K = -1) = B0 := ⟨_, rfl⟩
  rw [hB0] at ev
  have HB0 : Hid (B0 = true ∨ (0 : Int) ≤ K) := by
    cases B0 with
    | true => exact Or.inl rfl
    | false =>
      refine Or.inr ?_
      have := E.out.2.2.1
      simp at hB0
      omega
  clear hB0
  go_wp2_with fail
  refine wp_region_later (by kernel_rfl) (by kernel_rfl) ?_
  repeat (go_big_quiet_step (first | exact rfl | (go_at_call 18; with_reducible exact Calls.later_of (P1.out _))))
  refine wpQuiet_nil ?_
  intro _ hw'
  obtain ⟨z, rfl⟩ := hw'
  clear f0 f8 P1 ev
  go_wp2_with fail
  go_loopw [4, 5] (fun v4 v5 wr => ∃ (i : Nat) (B : Bool), i ≤ n ∧ v5 = .int .i64 i ∧ v4 = .bool B ∧ (B = true ∨ (i : Int) ≤ K) ∧ Below Y.heap.size Y wr) (fun _ v5 _ => n - (intOf v5).toNat)
  case atStart => exact ⟨0, B0, by omega, rfl, rfl, HB0.out, z.below⟩
  case round =>
    obtain ⟨i, B, hi, rfl, rfl, hBK, hB⟩ := hrel
    have hin0 : (0 : Int) ≤ (i : Int) := by omega
    have T1 := GY.out.1.below hB
    have c16 := T1.var.t16
    have J : Hid ((B = true ∨ (i : Int) ≤ K) ∧ TQ w wr w.heap.size h a0 n c0 l ∧ TQ w wr sb hS a1 n c1 (selL h l) ∧ Below Y.heap.size Y wr) := ⟨hBK, T1, GY.out.2.below hB, hB⟩
    clear hBK hB T1
    by_cases hit : i < n
    · have hin1 : (i : Int) < (n : Int) := by omega
      have lt := J.out.2.1.ld
      go_wp2_with fail
      refine (cand_any h a0 n c0 i l wr J.out.2.1.sl hn1 hit).mono ?_
      rintro _ X1 ⟨rfl, b1⟩
      have EP := E.out.2.2.2.2.1 i hit
      have EK := E.out.2.2.2.2.2 i hit
      obtain ⟨p, hp⟩ : ∃ p, gtP l i = p := ⟨_, rfl⟩
      rw [hp] at EP EK ⊢
      have EP' : Hid (ldB h p = true → bet (addV p) v = false) := EP
      have EK' : Hid ((i : Int) = K → ldB h p = true ∧ addV p = v) := EK
      clear EP EK hp
      obtain ⟨X2, s2, r2, b2, z2⟩ := new_v X1 (canV h p)
      obtain ⟨cb, hcb⟩ : ∃ z, X1.heap.size = z := ⟨_, rfl⟩
      rw [hcb] at s2 r2
      have Q : Hid (TQ w X2 sb hS a1 n c1 (selL h l) ∧ RvAt X2 cb 28 (canV h p).cs ∧ Below Y.heap.size Y X2) := ⟨(J.out.2.2.1.below b1).below b2, r2, below_over (below_over J.out.2.2.2 b1) b2⟩
      clear b1 b2 r2 z2 lt c16
      cases hB : ldB h p
      · have NK : Hid (B = true ∨ ((i + 1 : Nat) : Int) ≤ K) := by
          rcases J.out.1 with h1 | h1
          · exact Or.inl h1
          · refine Or.inr ?_
            have : ¬ (i : Int) = K := fun e => by have := (EK'.out e).1; rw [hB] at this; cases this
            omega
        clear hB
        go_wp2
        go_roundw
        case rel => exact ⟨i + 1, B, by omega, by go_num, rfl, NK.out, Q.out.2.2⟩
        case measure => simp [intOf]; omega
      · have hcan : canV h p = addV p := by unfold canV; rw [if_pos hB]
        have EB := EP'.out hB
        rw [hcan] at Q s2 ⊢
        have EU : Hid ((i : Int) = K → addV p = v) := fun e => (EK'.out e).2
        obtain ⟨u, hu⟩ : ∃ u, addV p = u := ⟨_, rfl⟩
        rw [hu] at Q s2 EB EU ⊢
        clear hu hcan hB EP' EK'
        have ku := Q.out.2.1.vld
        have kv := Q.out.1.var.tR
        rw [E.out.1] at kv
        go_wp2_with fail
        refine (betref_row u v X2).mono ?_
        rintro _ X3 ⟨rfl, b3⟩
        rw [EB]
        have Q3 : Hid (Below Y.heap.size Y X3) := below_over Q.out.2.2 b3
        have ku3 := (Q.out.2.1.below b3).vld
        have kv3 := (Q.out.1.below b3).var.tR
        rw [E.out.1] at kv3
        clear b3 Q ku kv s2 EB
        cases B with
        | true =>
          go_wp2
          go_roundw
          case rel => exact ⟨i + 1, true, by omega, by go_num, rfl, Or.inl rfl, Q3.out⟩
          case measure => simp [intOf]; omega
        | false =>
          obtain ⟨B1, hB1⟩ : ∃ B1, u.eq v = B1 := ⟨_, rfl⟩
          have NK : Hid (B1 = true ∨ ((i + 1 : Nat) : Int) ≤ K) := by
            by_cases hik : (i : Int) = K
            · exact Or.inl (by rw [← hB1]; exact Row.eq_iff.2 (EU.out hik))
            · rcases J.out.1 with h1 | h1
              · cases h1
              · exact Or.inr (by omega)
          go_wp2
          go_roundw
          case rel => exact ⟨i + 1, B1, by omega, by go_num, rfl, NK.out, Q3.out⟩
          case measure => simp [intOf]; omega
    · have hin : i = n := by omega
      subst hin
      have hin1 : ¬ (i : Int) < (i : Int) := by omega
      have hBt : B = true := by
        rcases J.out.1 with h1 | h1
        · exact h1
        · have := E.out.2.2.1; omega
      subst hBt
      go_wp2_with fail
      refine (awake_any wr).mono ?_
      rintro _ X ⟨rfl, bX⟩
      have F : Hid (Below w.heap.size w X) := below_over J.out.2.1.bel bX
      clear bX c16
      go_wp2
      go_ret
      exact ⟨rfl, F.out⟩
end Go.Proofs.Ytnblhmicbhblpaa
