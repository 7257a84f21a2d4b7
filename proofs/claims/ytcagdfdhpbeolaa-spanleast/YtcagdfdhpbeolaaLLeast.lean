/-
  SpanLeast: the walk, for every input.
-/
import Derived.Test.YtcagdfdhpbeolaaLFits
import Derived.Test.YtcagdfdhpbeolaaJnd
import Derived.Test.YtcagdfdhpbeolaaRRt
namespace Go.Proofs.Ytcagdfdhpbeolaa
set_option linter.unusedVariables false
set_option maxRecDepth 8000
set_option linter.unusedSimpArgs false
open Go.RowKit

theorem sde1 {W : World} {b o n c i : Nat} {L : List Ne} {s : Ne} (h : SlAt eS W (some ⟨b, o, none⟩) n c (sidesE (L.map Ne.eg))) (hx : (sdl L)[i]? = some s) : W.cell? ⟨b, o + i * 5 + 1, none⟩ = some (.int .i64 (s.pa : Int)) := lds1 h (sdl_ss hx)
theorem ldnF {W : World} {b o n c i : Nat} {ids : List Nat} {L : List Ne} (h : SlAt eN W (some ⟨b, o, none⟩) n c (nodesF ids L)) (hi : i < ids.length) : (ldS 60 (.pointer (some ⟨b, o + i * 3, none⟩))).run Try.prog W = .ok (.agg (Nd.mk (kr ids L i) (kc ids L i) (rpOf ids L i)).cs) W := h.ld kN (nodesF_at hi) Try.underlying60 rfl rfl
attribute [local go_sem ↓] ldN stN
set_option maxHeartbeats 16000000 in
theorem SpanLeast_walk (a : Option Addr) (n c : Nat) (ids0 : List Nat) (a' : Option Addr) (n' c' : Nat) (es0 : List Eg) (w : World) (hs : SlAt eU w a n c ids0) (hl : ∀ x ∈ ids0, x < 18446744073709551616) (ht : SlAt eE w a' n' c' es0) (_hx : ∀ u ∈ es0, True) :
    Calls Try.prog 7 #[.slice a n c, .slice a' n' c'] w fun r w' => r = .returned (.bool true) ∧ Below w.heap.size w w' := by
  have H0 : Hid (SlAt eU w a n c ids0 ∧ SlAt eE w a' n' c' es0 ∧ ∀ x ∈ ids0, x < 18446744073709551616) := ⟨hs, ht, hl⟩
  clear hs ht hl _hx
  go_enter Try.func7, Try.ntmps7
  go_wp2_with fail
  refine (short_any a n c ids0 w H0.out.1).mono ?_
  rintro _ W1 ⟨⟨m, rfl, hm, s1⟩, b1⟩
  have H1 : Hid (SlAt eU W1 a m c (ids0.take 9) ∧ m ≤ 9 ∧ Below w.heap.size w W1) := ⟨s1, hm, b1⟩
  clear s1 hm b1
  go_wp2_with fail
  refine (few_any a' n' c' es0 W1 (H0.out.2.1.below H1.out.2.2)).mono ?_
  rintro _ W2 ⟨⟨m', rfl, hm', s2⟩, b2⟩
  obtain ⟨ids, hids⟩ : ∃ z, ids0.take 9 = z := ⟨_, rfl⟩
  obtain ⟨es, hes⟩ : ∃ z, es0.take 26 = z := ⟨_, rfl⟩
  have GS2 : Hid (GS w W2 a m c a' m' c' ids es) := ⟨by rw [← hids]; exact H1.out.1.below b2, by rw [← hes]; exact s2, by rw [← hids]; exact take_u H0.out.2.2 9, H1.out.2.1, hm', below_over H1.out.2.2 b2⟩
  have hm9 := GS2.out.n9
  have hm26 := GS2.out.m26
  clear s2 hm' b2 H1 H0 hids hes
  go_wp2_with fail
  cases hc : chkI ids es
  · have hE := err_no hc
    refine (nodes_any a m c ids a' m' c' es W2 GS2.out.sl GS2.out.ed GS2.out.u64 (by omega) (by omega)).mono ?_
    rintro _ W3 ⟨⟨a3, n3, c3, M, rfl, hN, hO⟩, b⟩
    have hM0 : n3 = 0 := by
      rcases hO with ⟨_, h0⟩ | ⟨L, _, _, h1, _⟩
      · rw [← hN.len, h0]; rfl
      · rw [hc] at h1; cases h1
    subst hM0
    have G3 : Hid (GS w W3 a m c a' m' c' ids es) := GS2.out.below b
    clear hN hO b GS2 hc
    go_wp2_with fail
    refine (rcheck_any a m c ids a' m' c' es W3 G3.out.sl G3.out.ed G3.out.u64 (by omega) (by omega)).mono ?_
    rintro _ W5 ⟨rfl, b5⟩
    rw [hE]
    have B5 : Hid (Below w.heap.size w W5) := below_over G3.out.bel b5
    clear b5 G3 hE
    go_wp2_with fail
    refine (awake_any W5).mono ?_
    rintro _ W6 ⟨rfl, b6⟩
    have B6 : Hid (Below w.heap.size w W6) := below_over B5.out b6
    clear b6
    go_wp2
    go_ret
    exact ⟨rfl, B6.out⟩
  · have hE := err_ok hc
    obtain ⟨L, rfl, G⟩ := gok_of hc GS2.out.u64
    have HC : Hid (chkI ids (L.map Ne.eg) = true ∧ Gok ids L) := ⟨hc, G⟩
    clear hc G
    refine (nodes_any a m c ids a' m' c' (L.map Ne.eg) W2 GS2.out.sl GS2.out.ed GS2.out.u64 (by omega) (by omega)).mono ?_
    rintro _ W3 ⟨⟨a3, n3, c3, M, rfl, hN, hO⟩, b⟩
    have hMF := nodO_is hO HC.out.1
    subst hMF
    have hid : ids.length = m := GS2.out.sl.len
    have hn3 : n3 = m := by rw [← hN.len, nodesF_len, hid]
    subst hn3
    have G3 : Hid (GS w W3 a n3 c a' m' c' ids (L.map Ne.eg) ∧ SlAt eN W3 a3 n3 c3 (nodesF ids L) ∧ ids.length = n3) := ⟨GS2.out.below b, hN, hid⟩
    rw [hE]
    clear hN hO b GS2 hid
    go_wp2_with fail
    refine (rcheck_any a n3 c ids a' m' c' (L.map Ne.eg) W3 G3.out.1.sl G3.out.1.ed G3.out.1.u64 (by omega) (by omega)).mono ?_
    rintro _ W4 ⟨rfl, b5⟩
    rw [hE]
    have G4 : Hid (GS w W4 a n3 c a' m' c' ids (L.map Ne.eg) ∧ SlAt eN W4 a3 n3 c3 (nodesF ids L) ∧ ids.length = n3) := ⟨G3.out.1.below b5, G3.out.2.1.below b5, G3.out.2.2⟩
    clear b5 G3 hE
    go_wp2_with fail
    refine (joined_any n3 a' m' c' L W4 G4.out.1.ed (by omega) (fun s hs => by have := HC.out.2.side s hs; rw [G4.out.2.2] at this; exact ⟨this.1, this.2.1, this.2.2.2.2.2.2⟩)).mono ?_
    rintro _ W ⟨⟨g, cg, rfl, hg, hP⟩, b6⟩
    have hn1 : 1 ≤ n3 := by have := HC.out.2.n1; rw [G4.out.2.2] at this; exact this
    have K : Hid (SlAt eU W a n3 c ids ∧ SlAt eN W a3 n3 c3 (nodesF ids L) ∧ PAt eI W g cg (jl n3 (ptJ n3 L)) ∧ SlAt eE W a' m' c' (L.map Ne.eg) ∧ Below w.heap.size w W ∧ ids.length = n3) := ⟨G4.out.1.sl.below b6, G4.out.2.1.below b6, hP, G4.out.1.ed.below b6, below_over G4.out.1.bel b6, G4.out.2.2⟩
    clear hP hg b6 G4
    go_wp2_with fail
    go_loopw [8] (fun v8 wr => ∃ i : Nat, i ≤ n3 ∧ v8 = .int .i64 i ∧ Below W.heap.size W wr) (fun v8 _ => n3 - (intOf v8).toNat)
    case atStart => exact ⟨0, by omega, rfl, Below.refl _ _⟩
    case round =>
      obtain ⟨i, hi, rfl, hB⟩ := hrel
      have hi0 : (0 : Int) ≤ (i : Int) := by omega
      have J : Hid (Below W.heap.size W wr) := hB
      by_cases hit : i < n3
      · have hi1 : (i : Int) < (n3 : Int) := by omega
        have HI : Hid (i < n3) := hit
        clear hB
        go_wp2_with fail
        go_loopw [9] (fun v9 wx => ∃ k : Nat, k ≤ n3 ∧ v9 = .int .i64 k ∧ Below W.heap.size W wx) (fun v9 _ => n3 - (intOf v9).toNat)
        case atStart => exact ⟨0, by omega, rfl, J.out⟩
        case round =>
          obtain ⟨k, hk, rfl, hB⟩ := hrel
          have hk0 : (0 : Int) ≤ (k : Int) := by omega
          have J2 : Hid (Below W.heap.size W wr) := hB
          by_cases hkt : k < n3
          · have hk1 : (k : Int) < (n3 : Int) := by omega
            have hil : i < ids.length := by rw [K.out.2.2.2.2.2]; exact hit
            have hkl : k < ids.length := by rw [K.out.2.2.2.2.2]; exact hkt
            obtain ⟨b3, o3, rfl⟩ := K.out.2.1.some' (by omega)
            obtain ⟨b4, o4, rfl⟩ := K.out.1.some' (by omega)
            have hSN := K.out.2.1.below hB
            have hPJ := K.out.2.2.1.below hB
            have pi : ∀ q : Later wr, q.val.cell? ⟨g, i, none⟩ = some (.int .i64 (ptJ n3 L i : Int)) := fun q => (hPJ.below q.below).cell kI (j := 0) (jl_at _ hit) rfl (by show i = i * 1 + 0; omega)
            have pk : ∀ q : Later wr, q.val.cell? ⟨g, k, none⟩ = some (.int .i64 (ptJ n3 L k : Int)) := fun q => (hPJ.below q.below).cell kI (j := 0) (jl_at _ hkt) rfl (by show k = k * 1 + 0; omega)
            have ni := fun q : Later wr => cN0 (hSN.below q.below) (nodesF_at hil)
            have nk := fun q : Later wr => cN0 (hSN.below q.below) (nodesF_at hkl)
            have ik : ∀ q : Later wr, q.val.cell? ⟨b4, o4 + k, none⟩ = some (.int .u64 (idO ids k : Int)) := fun q => ldu ((K.out.1.below hB).below q.below) (getD_at hkl)
            simp only at ni nk
            obtain ⟨A, hA⟩ : ∃ z, ptJ n3 L i = z := ⟨_, rfl⟩
            obtain ⟨B, hB'⟩ : ∃ z, ptJ n3 L k = z := ⟨_, rfl⟩
            rw [hA] at pi
            rw [hB'] at pk
            have HAB : Hid (ptJ n3 L i = A ∧ ptJ n3 L k = B ∧ i < ids.length ∧ k < ids.length) := ⟨hA, hB', hil, hkl⟩
            clear hB hil hkl hSN hPJ hA hB'
            cases hq : ((A : Int) == (B : Int))
            · go_wp2_with fail
              refine wp_region_later (by kernel_rfl) (by kernel_rfl) ?_
              repeat (go_big_quiet_step (first | exact rfl))
              refine wpQuiet_nil ?_
              intro _ hw'
              obtain ⟨q, rfl⟩ := hw'
              go_wp2
              go_roundw
              case rel => exact ⟨k + 1, by omega, by go_num, below_later J2.out q⟩
              case measure => simp [intOf]; omega
            · have hkr : kr ids L i = kr ids L k := by
                have h1 := beq_iff_eq.1 hq
                refine pt_kr HC.out.2 HAB.out.2.2.1 HAB.out.2.2.2 ?_
                rw [K.out.2.2.2.2.2, HAB.out.1, HAB.out.2.1]
                omega
              have hlo := kr_low HC.out.2 HAB.out.2.2.2
              rw [← hkr] at nk hlo
              have hnl : ¬ (idO ids k : Int) < (kr ids L i : Int) := by omega
              have hnd : decide ((idO ids k : Int) < (kr ids L i : Int)) = false := decide_eq_false hnl
              clear hkr hlo
              go_wp2_with fail
              refine wp_region_later (by kernel_rfl) (by kernel_rfl) ?_
              repeat (go_big_quiet_step (first | exact rfl))
              refine wpQuiet_nil ?_
              intro _ hw'
              obtain ⟨q, rfl⟩ := hw'
              go_wp2
              go_roundw
              case rel => exact ⟨k + 1, by omega, by go_num, below_later J2.out q⟩
              case measure => simp [intOf]; omega
          · have hkn : k = n3 := by omega
            subst hkn
            have hk1 : ¬ (k : Int) < (k : Int) := by omega
            clear hB
            go_wp2
            go_roundw
            case rel => exact ⟨i + 1, by have := HI.out; omega, by go_num, J2.out⟩
            case measure => simp [intOf]; have := HI.out; omega
      · have hin : i = n3 := by omega
        subst hin
        have hi1 : ¬ (i : Int) < (i : Int) := by omega
        clear hB
        go_wp2_with fail
        refine (rsides_any a' m' c' (L.map Ne.eg) wr (K.out.2.2.2.1.below J.out) (by omega)).mono ?_
        rintro _ X ⟨⟨v, rfl, o2⟩, b7⟩
        obtain ⟨sa, sc, rfl, hS, _⟩ := o2.form
        obtain ⟨r, hr⟩ : ∃ z, (sidesE (L.map Ne.eg)).length = z := ⟨_, rfl⟩
        rw [hr] at hS ⊢
        have hrl : (sdl L).length = r := by rw [← hr, sdl_eg, List.length_map]
        have hri := hS.int
        have K2 : Hid (SlAt eS X sa r sc (sidesE (L.map Ne.eg)) ∧ SlAt eN X a3 i c3 (nodesF ids L) ∧ Below w.heap.size w X ∧ (sdl L).length = r) := ⟨hS, (K.out.2.1.below J.out).below b7, below_over (below_over K.out.2.2.2.2.1 J.out) b7, hrl⟩
        clear o2 hS hr hrl b7
        go_wp2_with fail
        go_loopw [11] (fun v11 wx => ∃ t : Nat, t ≤ r ∧ v11 = .int .i64 t ∧ Below X.heap.size X wx) (fun v11 _ => r - (intOf v11).toNat)
        case atStart => exact ⟨0, by omega, rfl, Below.refl _ _⟩
        case round =>
          obtain ⟨t, ht, rfl, hB⟩ := hrel
          have ht0 : (0 : Int) ≤ (t : Int) := by omega
          have J3 : Hid (Below X.heap.size X wr) := hB
          by_cases htt : t < r
          · have ht1 : (t : Int) < (r : Int) := by omega
            have htl : t < (sdl L).length := by rw [K2.out.2.2.2]; exact htt
            obtain ⟨b2, o2, rfl⟩ := K2.out.1.some' (by omega)
            obtain ⟨b3, o3, rfl⟩ := K2.out.2.1.some' (by omega)
            obtain ⟨s, hs⟩ := lt_nth htl
            have hsm := List.mem_of_getElem? hs
            have hgs := HC.out.2.side s hsm
            have hkc := side_kc HC.out.2 hsm
            obtain ⟨me, hme⟩ : ∃ z, Nd.mk (kr ids L s.a) (kc ids L s.a) (rpOf ids L s.a) = z := ⟨_, rfl⟩
            obtain ⟨you, hyou⟩ : ∃ z, Nd.mk (kr ids L s.b) (kc ids L s.b) (rpOf ids L s.b) = z := ⟨_, rfl⟩
            have hSS := K2.out.1.below hB
            have hSN := K2.out.2.1.below hB
            have la := fun q : Later wr => ldnF (hSN.below q.below) hgs.1
            have lb := fun q : Later wr => ldnF (hSN.below q.below) hgs.2.1
            rw [hme] at la
            rw [hyou] at lb
            have f0 := fun q : Later wr => sde0 (hSS.below q.below) hs
            have f3 := fun q : Later wr => sde3 (hSS.below q.below) hs
            rw [K.out.2.2.2.2.2] at hgs
            have ha0 : (0 : Int) ≤ (s.a : Int) := by omega
            have ha1 : (s.a : Int) < (i : Int) := by omega
            have hb0 : (0 : Int) ≤ (s.b : Int) := by omega
            have hb1 : (s.b : Int) < (i : Int) := by omega
            have D : Hid (SlAt eS wr (some ⟨b2, o2, none⟩) r sc (sidesE (L.map Ne.eg)) ∧ (sdl L)[t]? = some s ∧ me.c = kc ids L s.a ∧ you.c = kc ids L s.b ∧ me.p = rpOf ids L s.a ∧ kc ids L s.a ≤ kc ids L s.b + s.ca ∧ (rpOf ids L s.a = (s.pa : Int) → kc ids L s.a = kc ids L s.b + s.ca) ∧ kc ids L s.b + s.ca < 4294967296) := ⟨hSS, hs, by rw [← hme], by rw [← hyou], by rw [← hme], hkc⟩
            clear hB htl hs hsm hgs hkc hme hyou hSS hSN
            go_wp2_with fail
            go_cut [12, 13] from 101 to 150 (fun v12 v13 wx => ∃ z9 z10, v12 = .pointer (some ⟨z9, 0, none⟩) ∧ v13 = .pointer (some ⟨z10, 0, none⟩) ∧ RvAt wx z9 60 me.cs ∧ RvAt wx z10 60 you.cs ∧ z9 ≠ z10 ∧ wr.heap.size ≤ z9 ∧ Below wr.heap.size wr wx)
            case first =>
              obtain ⟨X0, hX0⟩ : ∃ X0, World.drew wr = X0 := ⟨_, rfl⟩
              have B0 : Hid (Below wr.heap.size wr X0) := by rw [← hX0]; exact (Below.refl _ _).drew
              refine wp_region_noPanic ?_
              refine wp_region_held_drew (S := fun w' => ∃ x : Later wr, w' = x.val) (by kernel_rfl) ⟨⟨_, (Below.refl _ _).drew⟩, rfl⟩ (fun hHeld => ?_)
              rw [hX0] at hHeld ⊢
              clear hX0
              refine wpAnyH_take (i := 0) (oi := { dst := some 101, op := Op.move (Operand.tmp 5), type := 26, pos := "law.go:200", after := #[], guard := none }) (v := ?_) rfl (by kernel_rfl) (by kernel_rfl) (by kernel_rfl) (fun _ _ _ h => h) (Or.inl ⟨by rfl, ?_⟩) hHeld ?_
              rotate_left
              · intro W_ hSw_
                obtain ⟨q, rfl⟩ := hSw_
                first | (go_simp; done) | (go_simp; with_reducible rfl)
              rotate_left
              try simp only [Act.put, List.setIfInBounds_toArray, List.set_cons_zero, List.set_cons_succ]
              refine wpAnyH_take (i := 1) (oi := { dst := some 102, op := Op.move (Operand.tmp 10), type := 61, pos := "law.go:200", after := #[], guard := none }) (v := ?_) rfl (by kernel_rfl) (by kernel_rfl) (by kernel_rfl) (fun _ _ _ h => h) (Or.inl ⟨by rfl, ?_⟩) hHeld ?_
              rotate_left
              · intro W_ hSw_
                obtain ⟨q, rfl⟩ := hSw_
                first | (go_simp; done) | (go_simp; with_reducible rfl)
              rotate_left
              try simp only [Act.put, List.setIfInBounds_toArray, List.set_cons_zero, List.set_cons_succ]
              refine wpAnyH_take (i := 2) (oi := { dst := some 103, op := Op.move (Operand.tmp 11), type := 3, pos := "law.go:200", after := #[], guard := none }) (v := ?_) rfl (by kernel_rfl) (by kernel_rfl) (by kernel_rfl) (fun _ _ _ h => h) (Or.inl ⟨by rfl, ?_⟩) hHeld ?_
              rotate_left
              · intro W_ hSw_
                obtain ⟨q, rfl⟩ := hSw_
                first | (go_simp; done) | (go_simp; with_reducible rfl)
              rotate_left
              try simp only [Act.put, List.setIfInBounds_toArray, List.set_cons_zero, List.set_cons_succ]
              refine wpAnyH_take (i := 3) (oi := { dst := some 104, op := Op.indexAddr 61 (Operand.tmp 102) (Operand.tmp 103), type := 0, pos := "law.go:200", after := #[{ on := 1, ground := Ground.data }, { on := 2, ground := Ground.data }], guard := none }) (v := ?_) rfl (by kernel_rfl) (by kernel_rfl) (by kernel_rfl) (fun _ _ _ h => h) (Or.inl ⟨by rfl, ?_⟩) hHeld ?_
              rotate_left
              · intro W_ hSw_
                obtain ⟨q, rfl⟩ := hSw_
                first | (go_simp; done) | (go_simp; with_reducible rfl)
              rotate_left
              try simp only [Act.put, List.setIfInBounds_toArray, List.set_cons_zero, List.set_cons_succ]
              refine wpAnyH_take (i := 4) (oi := { dst := some 105, op := Op.fieldAddr 64 (Operand.tmp 104) 0, type := 0, pos := "law.go:200", after := #[{ on := 3, ground := Ground.data }], guard := none }) (v := ?_) rfl (by kernel_rfl) (by kernel_rfl) (by kernel_rfl) (fun _ _ _ h => h) (Or.inl ⟨by rfl, ?_⟩) hHeld ?_
              rotate_left
              · intro W_ hSw_
                obtain ⟨q, rfl⟩ := hSw_
                first | (go_simp; done) | (go_simp; with_reducible rfl)
              rotate_left
              try simp only [Act.put, List.setIfInBounds_toArray, List.set_cons_zero, List.set_cons_succ]
              refine wpAnyH_take (i := 5) (oi := { dst := some 106, op := Op.load 3 (Operand.tmp 105), type := 3, pos := "law.go:200", after := #[{ on := 4, ground := Ground.data }], guard := none }) (v := ?_) rfl (by kernel_rfl) (by kernel_rfl) (by kernel_rfl) (fun _ _ _ h => h) (Or.inl ⟨by rfl, ?_⟩) hHeld ?_
              rotate_left
              · intro W_ hSw_
                obtain ⟨q, rfl⟩ := hSw_
                first | (go_simp; done) | (go_simp; with_reducible rfl)
              rotate_left
              try simp only [Act.put, List.setIfInBounds_toArray, List.set_cons_zero, List.set_cons_succ]
              refine wpAnyH_take (i := 6) (oi := { dst := some 107, op := Op.indexAddr 26 (Operand.tmp 101) (Operand.tmp 106), type := 0, pos := "law.go:200", after := #[{ on := 0, ground := Ground.data }, { on := 5, ground := Ground.data }], guard := none }) (v := ?_) rfl (by kernel_rfl) (by kernel_rfl) (by kernel_rfl) (fun _ _ _ h => h) (Or.inl ⟨by rfl, ?_⟩) hHeld ?_
              rotate_left
              · intro W_ hSw_
                obtain ⟨q, rfl⟩ := hSw_
                first | (go_simp; done) | (go_simp; with_reducible rfl)
              rotate_left
              try simp only [Act.put, List.setIfInBounds_toArray, List.set_cons_zero, List.set_cons_succ]
              refine wpAnyH_take (i := 7) (oi := { dst := some 108, op := Op.load 60 (Operand.tmp 107), type := 60, pos := "law.go:200", after := #[{ on := 6, ground := Ground.data }], guard := none }) (v := ?_) rfl (by kernel_rfl) (by kernel_rfl) (by kernel_rfl) (fun _ _ _ h => h) (Or.inl ⟨by rfl, ?_⟩) hHeld ?_
              rotate_left
              · intro W_ hSw_
                obtain ⟨q, rfl⟩ := hSw_
                first | (go_simp; done) | (go_simp; with_reducible rfl)
              rotate_left
              try simp only [Act.put, List.setIfInBounds_toArray, List.set_cons_zero, List.set_cons_succ]
              refine wpAnyH_take (i := 8) (oi := { dst := some 109, op := Op.move (Operand.tmp 5), type := 26, pos := "law.go:200", after := #[{ on := 18, ground := Ground.gcOnly Departure.lateStores }], guard := none }) (v := ?_) rfl (by kernel_rfl) (by kernel_rfl) (by kernel_rfl) (fun _ _ _ h => h) (Or.inl ⟨by rfl, ?_⟩) hHeld ?_
              rotate_left
              · intro W_ hSw_
                obtain ⟨q, rfl⟩ := hSw_
                first | (go_simp; done) | (go_simp; with_reducible rfl)
              rotate_left
              try simp only [Act.put, List.setIfInBounds_toArray, List.set_cons_zero, List.set_cons_succ]
              refine wpAnyH_take (i := 9) (oi := { dst := some 110, op := Op.move (Operand.tmp 10), type := 61, pos := "law.go:200", after := #[{ on := 18, ground := Ground.gcOnly Departure.lateStores }], guard := none }) (v := ?_) rfl (by kernel_rfl) (by kernel_rfl) (by kernel_rfl) (fun _ _ _ h => h) (Or.inl ⟨by rfl, ?_⟩) hHeld ?_
              rotate_left
              · intro W_ hSw_
                obtain ⟨q, rfl⟩ := hSw_
                first | (go_simp; done) | (go_simp; with_reducible rfl)
              rotate_left
              try simp only [Act.put, List.setIfInBounds_toArray, List.set_cons_zero, List.set_cons_succ]
              refine wpAnyH_take (i := 10) (oi := { dst := some 111, op := Op.move (Operand.tmp 11), type := 3, pos := "law.go:200", after := #[{ on := 18, ground := Ground.gcOnly Departure.lateStores }], guard := none }) (v := ?_) rfl (by kernel_rfl) (by kernel_rfl) (by kernel_rfl) (fun _ _ _ h => h) (Or.inl ⟨by rfl, ?_⟩) hHeld ?_
              rotate_left
              · intro W_ hSw_
                obtain ⟨q, rfl⟩ := hSw_
                first | (go_simp; done) | (go_simp; with_reducible rfl)
              rotate_left
              try simp only [Act.put, List.setIfInBounds_toArray, List.set_cons_zero, List.set_cons_succ]
              refine wpAnyH_take (i := 11) (oi := { dst := some 112, op := Op.indexAddr 61 (Operand.tmp 110) (Operand.tmp 111), type := 0, pos := "law.go:200", after := #[{ on := 9, ground := Ground.data }, { on := 10, ground := Ground.data }, { on := 18, ground := Ground.gcOnly Departure.lateStores }], guard := none }) (v := ?_) rfl (by kernel_rfl) (by kernel_rfl) (by kernel_rfl) (fun _ _ _ h => h) (Or.inl ⟨by rfl, ?_⟩) hHeld ?_
              rotate_left
              · intro W_ hSw_
                obtain ⟨q, rfl⟩ := hSw_
                first | (go_simp; done) | (go_simp; with_reducible rfl)
              rotate_left
              try simp only [Act.put, List.setIfInBounds_toArray, List.set_cons_zero, List.set_cons_succ]
              refine wpAnyH_take (i := 12) (oi := { dst := some 113, op := Op.fieldAddr 64 (Operand.tmp 112) 3, type := 0, pos := "law.go:200", after := #[{ on := 11, ground := Ground.data }, { on := 18, ground := Ground.gcOnly Departure.lateStores }], guard := none }) (v := ?_) rfl (by kernel_rfl) (by kernel_rfl) (by kernel_rfl) (fun _ _ _ h => h) (Or.inl ⟨by rfl, ?_⟩) hHeld ?_
              rotate_left
              · intro W_ hSw_
                obtain ⟨q, rfl⟩ := hSw_
                first | (go_simp; done) | (go_simp; with_reducible rfl)
              rotate_left
              try simp only [Act.put, List.setIfInBounds_toArray, List.set_cons_zero, List.set_cons_succ]
              refine wpAnyH_take (i := 13) (oi := { dst := some 114, op := Op.load 3 (Operand.tmp 113), type := 3, pos := "law.go:200", after := #[{ on := 12, ground := Ground.data }, { on := 18, ground := Ground.gcOnly Departure.lateStores }], guard := none }) (v := ?_) rfl (by kernel_rfl) (by kernel_rfl) (by kernel_rfl) (fun _ _ _ h => h) (Or.inl ⟨by rfl, ?_⟩) hHeld ?_
              rotate_left
              · intro W_ hSw_
                obtain ⟨q, rfl⟩ := hSw_
                first | (go_simp; done) | (go_simp; with_reducible rfl)
              rotate_left
              try simp only [Act.put, List.setIfInBounds_toArray, List.set_cons_zero, List.set_cons_succ]
              refine wpAnyH_take (i := 14) (oi := { dst := some 115, op := Op.indexAddr 26 (Operand.tmp 109) (Operand.tmp 114), type := 0, pos := "law.go:200", after := #[{ on := 8, ground := Ground.data }, { on := 13, ground := Ground.data }, { on := 18, ground := Ground.gcOnly Departure.lateStores }], guard := none }) (v := ?_) rfl (by kernel_rfl) (by kernel_rfl) (by kernel_rfl) (fun _ _ _ h => h) (Or.inl ⟨by rfl, ?_⟩) hHeld ?_
              rotate_left
              · intro W_ hSw_
                obtain ⟨q, rfl⟩ := hSw_
                first | (go_simp; done) | (go_simp; with_reducible rfl)
              rotate_left
              try simp only [Act.put, List.setIfInBounds_toArray, List.set_cons_zero, List.set_cons_succ]
              refine wpAnyH_take (i := 15) (oi := { dst := some 116, op := Op.load 60 (Operand.tmp 115), type := 60, pos := "law.go:200", after := #[{ on := 14, ground := Ground.data }, { on := 18, ground := Ground.gcOnly Departure.lateStores }], guard := none }) (v := ?_) rfl (by kernel_rfl) (by kernel_rfl) (by kernel_rfl) (fun _ _ _ h => h) (Or.inl ⟨by rfl, ?_⟩) hHeld ?_
              rotate_left
              · intro W_ hSw_
                obtain ⟨q, rfl⟩ := hSw_
                first | (go_simp; done) | (go_simp; with_reducible rfl)
              rotate_left
              try simp only [Act.put, List.setIfInBounds_toArray, List.set_cons_zero, List.set_cons_succ]
              refine wpAnyH_ready (rs := [16, 17]) (by kernel_rfl) (by simp) ?_
              refine (AllReadyH.cons (o := { dst := some 12, op := Op.alloc 60, type := 0, pos := "law.go:200", after := #[], guard := none }) rfl (fun K hK => ?_) (AllReadyH.cons (o := { dst := some 13, op := Op.alloc 60, type := 0, pos := "law.go:200", after := #[], guard := none }) rfl (fun K hK => ?_) AllReadyH.nil))
              · skip
                obtain ⟨X1, hN⟩ : ∃ z, X0.alloc (.cells #[.int .u64 0, .int .u32 0, .int .i64 0] 60) = z := ⟨_, rfl⟩
                obtain ⟨z9, hz⟩ : ∃ z, X0.heap.size = z := ⟨_, rfl⟩
                have bb : Below X0.heap.size X0 X1 := by rw [← hN]; exact (Below.refl _ _).alloc (Nat.le_refl _) _
                have B1 : Hid (Below wr.heap.size wr X1) := below_over B0.out bb
                have p5_1 : Hid (RvAt X1 z9 60 #[.int .u64 0, .int .u32 0, .int .i64 0] ∧ wr.heap.size ≤ z9) := ⟨by rw [← hN, ← hz]; exact RvAt.new _ _ _, by rw [← hz]; exact B0.out.size⟩
                clear bb
                go_simp
                clear hN hz
                clear hHeld
                refine hK.out _ _ ⟨⟨_, B1.out⟩, rfl⟩ (fun hHeld => ?_)
                clear hK K
                try simp only [Act.put, List.setIfInBounds_toArray, List.set_cons_zero, List.set_cons_succ]
                refine wpAnyH_ready (rs := [17]) (by kernel_rfl) (by simp) ?_
                refine AllReadyH.cons (o := { dst := some 13, op := Op.alloc 60, type := 0, pos := "law.go:200", after := #[], guard := none }) rfl (fun K hK => ?_) AllReadyH.nil
                obtain ⟨X2, hN⟩ : ∃ z, X1.alloc (.cells #[.int .u64 0, .int .u32 0, .int .i64 0] 60) = z := ⟨_, rfl⟩
                obtain ⟨z10, hz⟩ : ∃ z, X1.heap.size = z := ⟨_, rfl⟩
                have bb : Below X1.heap.size X1 X2 := by rw [← hN]; exact (Below.refl _ _).alloc (Nat.le_refl _) _
                have B2 : Hid (Below wr.heap.size wr X2) := below_over B1.out bb
                have p6_2 : Hid (RvAt X2 z10 60 #[.int .u64 0, .int .u32 0, .int .i64 0] ∧ wr.heap.size ≤ z10) := ⟨by rw [← hN, ← hz]; exact RvAt.new _ _ _, by rw [← hz]; exact B1.out.size⟩
                have p5_2 : Hid (RvAt X2 z9 60 #[.int .u64 0, .int .u32 0, .int .i64 0] ∧ wr.heap.size ≤ z9) := ⟨p5_1.out.1.below bb, p5_1.out.2⟩
                have NE : Hid (z9 ≠ z10) := by have := p5_1.out.1.lt; show _ ≠ _; omega
                clear bb
                go_simp
                clear hN hz
                clear hHeld
                refine hK.out _ _ ⟨⟨_, B2.out⟩, rfl⟩ (fun hHeld => ?_)
                clear hK K
                try simp only [Act.put, List.setIfInBounds_toArray, List.set_cons_zero, List.set_cons_succ]
                refine wpAnyH_ready (rs := [18]) (by kernel_rfl) (by simp) ?_
                refine AllReadyH.cons (o := { dst := none, op := Op.store 60 (Operand.tmp 12) (Operand.tmp 108), type := 0, pos := "law.go:200", after := #[{ on := 16, ground := Ground.data }, { on := 7, ground := Ground.data }, { on := 0, ground := Ground.phase }, { on := 1, ground := Ground.phase }, { on := 2, ground := Ground.phase }, { on := 3, ground := Ground.phase }, { on := 4, ground := Ground.phase }, { on := 5, ground := Ground.phase }, { on := 6, ground := Ground.phase }, { on := 7, ground := Ground.phase }, { on := 8, ground := Ground.textOnly Departure.lateStores }, { on := 9, ground := Ground.textOnly Departure.lateStores }, { on := 10, ground := Ground.textOnly Departure.lateStores }, { on := 11, ground := Ground.textOnly Departure.lateStores }, { on := 12, ground := Ground.textOnly Departure.lateStores }, { on := 13, ground := Ground.textOnly Departure.lateStores }, { on := 14, ground := Ground.textOnly Departure.lateStores }, { on := 15, ground := Ground.textOnly Departure.lateStores }, { on := 16, ground := Ground.phase }, { on := 17, ground := Ground.phase }], guard := none }) rfl (fun K hK => ?_) AllReadyH.nil
                have st3 := p5_2.out.1.st rtN (ds := (me).cs) rfl rfl (one_of rfl)
                obtain ⟨X3, hN⟩ : ∃ z, X2.setRow z9 (me).cs = z := ⟨_, rfl⟩
                rw [hN] at st3
                have B3 : Hid (Below wr.heap.size wr X3) := by rw [← hN]; exact below_setRow B2.out p5_2.out.2 _
                have p5_3 : Hid (RvAt X3 z9 60 (me).cs ∧ wr.heap.size ≤ z9) := ⟨by rw [← hN]; exact p5_2.out.1.set, p5_2.out.2⟩
                have p6_3 : Hid (RvAt X3 z10 60 #[.int .u64 0, .int .u32 0, .int .i64 0] ∧ wr.heap.size ≤ z10) := ⟨by rw [← hN]; exact p6_2.out.1.keptBut (grown_row _ _ _) (fun e => by have := NE.out; simp only [Option.some.injEq] at e; omega), p6_2.out.2⟩
                go_simp
                clear hN st3
                clear hHeld
                refine hK.out _ _ ⟨⟨_, B3.out⟩, rfl⟩ (fun hHeld => ?_)
                clear hK K
                try simp only [Act.put, List.setIfInBounds_toArray, List.set_cons_zero, List.set_cons_succ]
                refine wpAnyH_ready (rs := [19]) (by kernel_rfl) (by simp) ?_
                refine AllReadyH.cons (o := { dst := none, op := Op.store 60 (Operand.tmp 13) (Operand.tmp 116), type := 0, pos := "law.go:200", after := #[{ on := 17, ground := Ground.data }, { on := 15, ground := Ground.data }, { on := 18, ground := Ground.chain }, { on := 0, ground := Ground.phase }, { on := 1, ground := Ground.phase }, { on := 2, ground := Ground.phase }, { on := 3, ground := Ground.phase }, { on := 4, ground := Ground.phase }, { on := 5, ground := Ground.phase }, { on := 6, ground := Ground.phase }, { on := 7, ground := Ground.phase }, { on := 8, ground := Ground.phase }, { on := 9, ground := Ground.phase }, { on := 10, ground := Ground.phase }, { on := 11, ground := Ground.phase }, { on := 12, ground := Ground.phase }, { on := 13, ground := Ground.phase }, { on := 14, ground := Ground.phase }, { on := 15, ground := Ground.phase }, { on := 16, ground := Ground.phase }, { on := 17, ground := Ground.phase }, { on := 18, ground := Ground.phase }], guard := none }) rfl (fun K hK => ?_) AllReadyH.nil
                have st4 := p6_3.out.1.st rtN (ds := (you).cs) rfl rfl (one_of rfl)
                obtain ⟨X4, hN⟩ : ∃ z, X3.setRow z10 (you).cs = z := ⟨_, rfl⟩
                rw [hN] at st4
                have B4 : Hid (Below wr.heap.size wr X4) := by rw [← hN]; exact below_setRow B3.out p6_3.out.2 _
                have p6_4 : Hid (RvAt X4 z10 60 (you).cs ∧ wr.heap.size ≤ z10) := ⟨by rw [← hN]; exact p6_3.out.1.set, p6_3.out.2⟩
                have p5_4 : Hid (RvAt X4 z9 60 (me).cs ∧ wr.heap.size ≤ z9) := ⟨by rw [← hN]; exact p5_3.out.1.keptBut (grown_row _ _ _) (fun e => by have := NE.out; simp only [Option.some.injEq] at e; omega), p5_3.out.2⟩
                go_simp
                clear hN st4
                clear hHeld
                refine hK.out _ _ ⟨⟨_, B4.out⟩, rfl⟩ (fun hHeld => ?_)
                clear hK K
                try simp only [Act.put, List.setIfInBounds_toArray, List.set_cons_zero, List.set_cons_succ]
                refine wpAnyH_done (by kernel_rfl) ?_ _
                refine NoPanic.normal ?_
                clear hHeld
                go_wp2_with fail
                go_meet
                exact ⟨z9, z10, rfl, rfl, p5_4.out.1, p6_4.out.1, NE.out, p5_4.out.2, B4.out⟩
              · skip
                obtain ⟨X5, hN⟩ : ∃ z, X0.alloc (.cells #[.int .u64 0, .int .u32 0, .int .i64 0] 60) = z := ⟨_, rfl⟩
                obtain ⟨z10, hz⟩ : ∃ z, X0.heap.size = z := ⟨_, rfl⟩
                have bb : Below X0.heap.size X0 X5 := by rw [← hN]; exact (Below.refl _ _).alloc (Nat.le_refl _) _
                have B5 : Hid (Below wr.heap.size wr X5) := below_over B0.out bb
                have p6_5 : Hid (RvAt X5 z10 60 #[.int .u64 0, .int .u32 0, .int .i64 0] ∧ wr.heap.size ≤ z10) := ⟨by rw [← hN, ← hz]; exact RvAt.new _ _ _, by rw [← hz]; exact B0.out.size⟩
                clear bb
                go_simp
                clear hN hz
                clear hHeld
                refine hK.out _ _ ⟨⟨_, B5.out⟩, rfl⟩ (fun hHeld => ?_)
                clear hK K
                try simp only [Act.put, List.setIfInBounds_toArray, List.set_cons_zero, List.set_cons_succ]
                refine wpAnyH_ready (rs := [16]) (by kernel_rfl) (by simp) ?_
                refine AllReadyH.cons (o := { dst := some 12, op := Op.alloc 60, type := 0, pos := "law.go:200", after := #[], guard := none }) rfl (fun K hK => ?_) AllReadyH.nil
                obtain ⟨X6, hN⟩ : ∃ z, X5.alloc (.cells #[.int .u64 0, .int .u32 0, .int .i64 0] 60) = z := ⟨_, rfl⟩
                obtain ⟨z9, hz⟩ : ∃ z, X5.heap.size = z := ⟨_, rfl⟩
                have bb : Below X5.heap.size X5 X6 := by rw [← hN]; exact (Below.refl _ _).alloc (Nat.le_refl _) _
                have B6 : Hid (Below wr.heap.size wr X6) := below_over B5.out bb
                have p5_6 : Hid (RvAt X6 z9 60 #[.int .u64 0, .int .u32 0, .int .i64 0] ∧ wr.heap.size ≤ z9) := ⟨by rw [← hN, ← hz]; exact RvAt.new _ _ _, by rw [← hz]; exact B5.out.size⟩
                have p6_6 : Hid (RvAt X6 z10 60 #[.int .u64 0, .int .u32 0, .int .i64 0] ∧ wr.heap.size ≤ z10) := ⟨p6_5.out.1.below bb, p6_5.out.2⟩
                have NE : Hid (z9 ≠ z10) := by have := p6_5.out.1.lt; show _ ≠ _; omega
                clear bb
                go_simp
                clear hN hz
                clear hHeld
                refine hK.out _ _ ⟨⟨_, B6.out⟩, rfl⟩ (fun hHeld => ?_)
                clear hK K
                try simp only [Act.put, List.setIfInBounds_toArray, List.set_cons_zero, List.set_cons_succ]
                refine wpAnyH_ready (rs := [18]) (by kernel_rfl) (by simp) ?_
                refine AllReadyH.cons (o := { dst := none, op := Op.store 60 (Operand.tmp 12) (Operand.tmp 108), type := 0, pos := "law.go:200", after := #[{ on := 16, ground := Ground.data }, { on := 7, ground := Ground.data }, { on := 0, ground := Ground.phase }, { on := 1, ground := Ground.phase }, { on := 2, ground := Ground.phase }, { on := 3, ground := Ground.phase }, { on := 4, ground := Ground.phase }, { on := 5, ground := Ground.phase }, { on := 6, ground := Ground.phase }, { on := 7, ground := Ground.phase }, { on := 8, ground := Ground.textOnly Departure.lateStores }, { on := 9, ground := Ground.textOnly Departure.lateStores }, { on := 10, ground := Ground.textOnly Departure.lateStores }, { on := 11, ground := Ground.textOnly Departure.lateStores }, { on := 12, ground := Ground.textOnly Departure.lateStores }, { on := 13, ground := Ground.textOnly Departure.lateStores }, { on := 14, ground := Ground.textOnly Departure.lateStores }, { on := 15, ground := Ground.textOnly Departure.lateStores }, { on := 16, ground := Ground.phase }, { on := 17, ground := Ground.phase }], guard := none }) rfl (fun K hK => ?_) AllReadyH.nil
                have st7 := p5_6.out.1.st rtN (ds := (me).cs) rfl rfl (one_of rfl)
                obtain ⟨X7, hN⟩ : ∃ z, X6.setRow z9 (me).cs = z := ⟨_, rfl⟩
                rw [hN] at st7
                have B7 : Hid (Below wr.heap.size wr X7) := by rw [← hN]; exact below_setRow B6.out p5_6.out.2 _
                have p5_7 : Hid (RvAt X7 z9 60 (me).cs ∧ wr.heap.size ≤ z9) := ⟨by rw [← hN]; exact p5_6.out.1.set, p5_6.out.2⟩
                have p6_7 : Hid (RvAt X7 z10 60 #[.int .u64 0, .int .u32 0, .int .i64 0] ∧ wr.heap.size ≤ z10) := ⟨by rw [← hN]; exact p6_6.out.1.keptBut (grown_row _ _ _) (fun e => by have := NE.out; simp only [Option.some.injEq] at e; omega), p6_6.out.2⟩
                go_simp
                clear hN st7
                clear hHeld
                refine hK.out _ _ ⟨⟨_, B7.out⟩, rfl⟩ (fun hHeld => ?_)
                clear hK K
                try simp only [Act.put, List.setIfInBounds_toArray, List.set_cons_zero, List.set_cons_succ]
                refine wpAnyH_ready (rs := [19]) (by kernel_rfl) (by simp) ?_
                refine AllReadyH.cons (o := { dst := none, op := Op.store 60 (Operand.tmp 13) (Operand.tmp 116), type := 0, pos := "law.go:200", after := #[{ on := 17, ground := Ground.data }, { on := 15, ground := Ground.data }, { on := 18, ground := Ground.chain }, { on := 0, ground := Ground.phase }, { on := 1, ground := Ground.phase }, { on := 2, ground := Ground.phase }, { on := 3, ground := Ground.phase }, { on := 4, ground := Ground.phase }, { on := 5, ground := Ground.phase }, { on := 6, ground := Ground.phase }, { on := 7, ground := Ground.phase }, { on := 8, ground := Ground.phase }, { on := 9, ground := Ground.phase }, { on := 10, ground := Ground.phase }, { on := 11, ground := Ground.phase }, { on := 12, ground := Ground.phase }, { on := 13, ground := Ground.phase }, { on := 14, ground := Ground.phase }, { on := 15, ground := Ground.phase }, { on := 16, ground := Ground.phase }, { on := 17, ground := Ground.phase }, { on := 18, ground := Ground.phase }], guard := none }) rfl (fun K hK => ?_) AllReadyH.nil
                have st8 := p6_7.out.1.st rtN (ds := (you).cs) rfl rfl (one_of rfl)
                obtain ⟨X8, hN⟩ : ∃ z, X7.setRow z10 (you).cs = z := ⟨_, rfl⟩
                rw [hN] at st8
                have B8 : Hid (Below wr.heap.size wr X8) := by rw [← hN]; exact below_setRow B7.out p6_7.out.2 _
                have p6_8 : Hid (RvAt X8 z10 60 (you).cs ∧ wr.heap.size ≤ z10) := ⟨by rw [← hN]; exact p6_7.out.1.set, p6_7.out.2⟩
                have p5_8 : Hid (RvAt X8 z9 60 (me).cs ∧ wr.heap.size ≤ z9) := ⟨by rw [← hN]; exact p5_7.out.1.keptBut (grown_row _ _ _) (fun e => by have := NE.out; simp only [Option.some.injEq] at e; omega), p5_7.out.2⟩
                go_simp
                clear hN st8
                clear hHeld
                refine hK.out _ _ ⟨⟨_, B8.out⟩, rfl⟩ (fun hHeld => ?_)
                clear hK K
                try simp only [Act.put, List.setIfInBounds_toArray, List.set_cons_zero, List.set_cons_succ]
                refine wpAnyH_done (by kernel_rfl) ?_ _
                refine NoPanic.normal ?_
                clear hHeld
                go_wp2_with fail
                go_meet
                exact ⟨z9, z10, rfl, rfl, p5_8.out.1, p6_8.out.1, NE.out, p5_8.out.2, B8.out⟩
            case rest =>
              obtain ⟨z9, z10, rfl, rfl, q9, q10, _, _, bX⟩ := hcut
              clear la lb f0 f3
              have m1 := fun q : Later wc => NvAt.c1 (q9.below q.below)
              have m2 := fun q : Later wc => NvAt.c2 (q9.below q.below)
              have y1 := fun q : Later wc => NvAt.c1 (q10.below q.below)
              have s1 := fun q : Later wc => sde1 ((D.out.1.below bX).below q.below) D.out.2.1
              have s2 := fun q : Later wc => sde2 ((D.out.1.below bX).below q.below) D.out.2.1
              have hw := wrap32 (c := you.c) (d := s.ca) (by rw [D.out.2.2.2.1]; exact D.out.2.2.2.2.2.2.2)
              have hle0 : me.c ≤ you.c + s.ca := by rw [D.out.2.2.1, D.out.2.2.2.1]; exact D.out.2.2.2.2.2.1
              have heq0 : me.p = (s.pa : Int) → me.c = you.c + s.ca := fun h => by
                rw [D.out.2.2.1, D.out.2.2.2.1]
                refine D.out.2.2.2.2.2.2.1 ?_
                rw [← D.out.2.2.2.2.1]
                exact h
              obtain ⟨A, hA⟩ : ∃ z : Int, (me.c : Int) = z := ⟨_, rfl⟩
              obtain ⟨P, hP⟩ : ∃ z, me.p = z := ⟨_, rfl⟩
              obtain ⟨CT, hCT⟩ : ∃ z : Int, ((you.c + s.ca : Nat) : Int) = z := ⟨_, rfl⟩
              rw [hA] at m1
              rw [hP] at m2
              rw [hCT] at hw
              have hngt : ¬ CT < A := by omega
              have hngd : decide (CT < A) = false := decide_eq_false hngt
              have HEQ : Hid (P = (s.pa : Int) → A = CT) := fun h => by
                have := heq0 (by rw [hP]; exact h)
                omega
              have J4 : Hid (Below X.heap.size X wc) := below_over J3.out bX
              clear q9 q10 bX hA hP hCT hle0 heq0
              cases hq : ((s.pa : Int) == P)
              · go_wp2_with fail
                refine wp_region_later (by kernel_rfl) (by kernel_rfl) ?_
                repeat (go_big_quiet_step (first | exact rfl))
                refine wpQuiet_nil ?_
                intro _ hw'
                obtain ⟨q, rfl⟩ := hw'
                go_wp2
                go_roundw
                case rel => exact ⟨t + 1, by omega, by go_num, below_later J4.out q⟩
                case measure => simp [intOf]; omega
              · have hAC := HEQ.out (by have := beq_iff_eq.1 hq; omega)
                have hnn : (A != CT) = false := by rw [hAC]; simp
                have hnq : (A == CT) = true := by rw [hAC]; simp
                clear hAC
                go_wp2_with fail
                refine wp_region_later (by kernel_rfl) (by kernel_rfl) ?_
                repeat (go_big_quiet_step (first | exact rfl))
                refine wpQuiet_nil ?_
                intro _ hw'
                obtain ⟨q, rfl⟩ := hw'
                go_wp2
                go_roundw
                case rel => exact ⟨t + 1, by omega, by go_num, below_later J4.out q⟩
                case measure => simp [intOf]; omega
          · have htn : t = r := by omega
            subst htn
            have ht1 : ¬ (t : Int) < (t : Int) := by omega
            have J4 : Hid (Below w.heap.size w wr) := below_over K2.out.2.2.1 hB
            clear hB
            go_wp2_with fail
            refine (awake_any wr).mono ?_
            rintro _ W9 ⟨rfl, b9⟩
            have B9 : Hid (Below w.heap.size w W9) := below_over J4.out b9
            clear b9
            go_wp2
            go_ret
            exact ⟨rfl, B9.out⟩
end Go.Proofs.Ytcagdfdhpbeolaa
