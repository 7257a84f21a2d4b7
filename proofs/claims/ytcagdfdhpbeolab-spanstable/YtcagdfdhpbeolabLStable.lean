/-
  SpanStable: the walk, for every input.
-/
import Derived.Test.YtcagdfdhpbeolabLawS
import Derived.Test.YtcagdfdhpbeolabPFit
import Derived.Test.YtcagdfdhpbeolabRCk
import Derived.Deep.CutRange
namespace Go.Proofs.Ytcagdfdhpbeolab
set_option linter.unusedVariables false
set_option maxRecDepth 8000
set_option linter.unusedSimpArgs false
open Go.RowKit

set_option maxHeartbeats 400000 in
theorem portid_any (p : Nat) (w : World) (hp : p ≤ 7) : Calls Try.prog 11 #[.int .i64 (p : Int)] w fun r w' => r = .returned (.int .u16 (32769 + (p : Int))) ∧ Below w.heap.size w w' := by
  have h1 : -9223372036854775808 ≤ 32769 + (p : Int) ∧ 32769 + (p : Int) ≤ 9223372036854775807 := by omega
  have h2 := (p16 hp).2
  go_enter Try.func11, Try.ntmps11
  go_wp2
  go_ret
  exact ⟨rfl, Below.refl _ _⟩
theorem sdl_ss {L : List Ne} {i : Nat} {s : Ne} (h : (sdl L)[i]? = some s) : (sidesE (L.map Ne.eg))[i]? = some s.eg := by
  rw [sdl_eg, List.getElem?_map, h]
  rfl
theorem sde3 {W : World} {b o n c i : Nat} {L : List Ne} {s : Ne} (h : SlAt eS W (some ⟨b, o, none⟩) n c (sidesE (L.map Ne.eg))) (hx : (sdl L)[i]? = some s) : W.cell? ⟨b, o + i * 5 + 3, none⟩ = some (.int .i64 (s.b : Int)) := lds3 h (sdl_ss hx)
theorem sde4 {W : World} {b o n c i : Nat} {L : List Ne} {s : Ne} (h : SlAt eS W (some ⟨b, o, none⟩) n c (sidesE (L.map Ne.eg))) (hx : (sdl L)[i]? = some s) : W.cell? ⟨b, o + i * 5 + 4, none⟩ = some (.int .i64 (s.pb : Int)) := lds4 h (sdl_ss hx)
theorem ldnF {W : World} {b o n c i : Nat} {ids : List Nat} {L : List Ne} (h : SlAt eN W (some ⟨b, o, none⟩) n c (nodesF ids L)) (hi : i < ids.length) : (ldS 40 (.pointer (some ⟨b, o + i * 3, none⟩))).run Try.prog W = .ok (.agg (Nd.mk (kr ids L i) (kc ids L i) (rpOf ids L i)).cs) W := h.ld kN (nodesF_at hi) Try.underlying40 rfl rfl
theorem rbet_vk {x y : V4} (hx : x.wf) (hy : y.wf) (w : World) : Calls Try.prog 12 #[.agg x.cs, .agg y.cs] w fun e w' => e = .returned (.bool (decide (vk x < vk y))) ∧ Below w.heap.size w w' := by
  rw [← bet_vk hx hy]
  exact betref_any _ _ w
attribute [local go_sem ↓] ldN stN ldV stV bdV
set_option maxHeartbeats 16000000 in
theorem SpanStable_walk (a : Option Addr) (n c : Nat) (ids0 : List Nat) (a' : Option Addr) (n' c' : Nat) (es0 : List Eg) (w : World) (hs : SlAt eU w a n c ids0) (hl : ∀ x ∈ ids0, x < 18446744073709551616) (ht : SlAt eE w a' n' c' es0) (_hx : ∀ u ∈ es0, True) :
    Calls Try.prog 3 #[.slice a n c, .slice a' n' c'] w fun r w' => r = .returned (.bool true) ∧ Below w.heap.size w w' := by
  have H0 : Hid (SlAt eU w a n c ids0 ∧ SlAt eE w a' n' c' es0 ∧ ∀ x ∈ ids0, x < 18446744073709551616) := ⟨hs, ht, hl⟩
  clear hs ht hl _hx
  go_enter Try.func3, Try.ntmps3
  go_wp2_with fail
  refine (short_any a n c ids0 w H0.out.1).mono ?_
  rintro _ W1 ⟨⟨m, rfl, hm, s1⟩, b1⟩
  have H1 : Hid (SlAt eU W1 a m c (ids0.take 9) ∧ m ≤ 9 ∧ Below w.heap.size w W1) := ⟨s1, hm, b1⟩
  clear s1 hm b1
  go_wp2_with fail
  refine (few_any a' n' c' es0 W1 (H0.out.2.1.below H1.out.2.2)).mono ?_
  rintro _ W2 ⟨⟨m', rfl, hm', s2⟩, b2⟩
  obtain ⟨ids, hids⟩ : ∃ z, ids0.take 9 = z := ⟨_, rfl⟩
  obtain ⟨es, hes⟩ : ∃ z, es0.take 26 = z := ⟨_, rfl⟩
  have GS2 : Hid (GS w W2 a m c a' m' c' ids es) := ⟨by rw [← hids]; exact H1.out.1.below b2, by rw [← hes]; exact s2, by rw [← hids]; exact take_u H0.out.2.2 9, H1.out.2.1, hm', below_over H1.out.2.2 b2⟩
  have hm9 := GS2.out.n9
  have hm26 := GS2.out.m26
  clear s2 hm' b2 H1 H0 hids hes
  go_wp2_with fail
  cases hc : chkI ids es
  · have hE := err_no hc
    clear hc
    refine (ends_any a m c ids a' m' c' es W2 GS2.out.sl GS2.out.ed GS2.out.u64 (by omega) (by omega)).mono ?_
    rintro _ W3 ⟨⟨a2, n2, c2, N, rfl, hN, hO⟩, b⟩
    have G3 : Hid (GS w W3 a m c a' m' c' ids es ∧ SlAt eX W3 a2 n2 c2 N ∧ endO ids es N) := ⟨GS2.out.below b, hN, hO⟩
    clear hN hO b GS2
    go_wp2_with fail
    refine (nodes_any a m c ids a' m' c' es W3 G3.out.1.sl G3.out.1.ed G3.out.1.u64 (by omega) (by omega)).mono ?_
    rintro _ W4 ⟨⟨a3, n3, c3, M, rfl, hN, hO⟩, b⟩
    have G4 : Hid (GS w W4 a m c a' m' c' ids es ∧ (SlAt eX W4 a2 n2 c2 N ∧ endO ids es N) ∧ SlAt eN W4 a3 n3 c3 M ∧ nodO ids es M) := ⟨G3.out.1.below b, ⟨G3.out.2.1.below b, G3.out.2.2⟩, hN, hO⟩
    clear hN hO b G3
    go_wp2_with fail
    refine (rcheck_any a m c ids a' m' c' es W4 G4.out.1.sl G4.out.1.ed G4.out.1.u64 (by omega) (by omega)).mono ?_
    rintro _ W5 ⟨rfl, b5⟩
    rw [hE]
    have B5 : Hid (Below w.heap.size w W5) := below_over G4.out.1.bel b5
    clear b5 G4 hE
    go_wp2_with fail
    refine (awake_any W5).mono ?_
    rintro _ W6 ⟨rfl, b6⟩
    have B6 : Hid (Below w.heap.size w W6) := below_over B5.out b6
    clear b6
    go_wp2
    go_ret
    exact ⟨rfl, B6.out⟩
  · have hE := err_ok hc
    obtain ⟨L, rfl, G⟩ := gok_of hc GS2.out.u64
    have HC : Hid (chkI ids (L.map Ne.eg) = true ∧ Gok ids L) := ⟨hc, G⟩
    clear hc G
    refine (ends_any a m c ids a' m' c' (L.map Ne.eg) W2 GS2.out.sl GS2.out.ed GS2.out.u64 (by omega) (by omega)).mono ?_
    rintro _ W3 ⟨⟨a2, n2, c2, N, rfl, hN, hO⟩, b⟩
    have G3 : Hid (GS w W3 a m c a' m' c' ids (L.map Ne.eg) ∧ SlAt eX W3 a2 n2 c2 N ∧ endO ids (L.map Ne.eg) N) := ⟨GS2.out.below b, hN, hO⟩
    clear hN hO b GS2
    go_wp2_with fail
    refine (nodes_any a m c ids a' m' c' (L.map Ne.eg) W3 G3.out.1.sl G3.out.1.ed G3.out.1.u64 (by omega) (by omega)).mono ?_
    rintro _ W4 ⟨⟨a3, n3, c3, M, rfl, hN, hO⟩, b⟩
    have G4 : Hid (GS w W4 a m c a' m' c' ids (L.map Ne.eg) ∧ (SlAt eX W4 a2 n2 c2 N ∧ endO ids (L.map Ne.eg) N) ∧ SlAt eN W4 a3 n3 c3 M ∧ nodO ids (L.map Ne.eg) M) := ⟨G3.out.1.below b, ⟨G3.out.2.1.below b, G3.out.2.2⟩, hN, hO⟩
    clear hN hO b G3
    go_wp2_with fail
    refine (rcheck_any a m c ids a' m' c' (L.map Ne.eg) W4 G4.out.1.sl G4.out.1.ed G4.out.1.u64 (by omega) (by omega)).mono ?_
    rintro _ W5 ⟨rfl, b5⟩
    rw [hE]
    have hNF := endO_is G4.out.2.1.2 HC.out.1
    have hMF := nodO_is G4.out.2.2.2 HC.out.1
    subst hNF
    subst hMF
    have hid : ids.length = m := G4.out.1.sl.len
    have hn3 : n3 = m := by rw [← G4.out.2.2.1.len, nodesF_len, hid]
    subst hn3
    have G5 : Hid (GS w W5 a n3 c a' m' c' ids (L.map Ne.eg) ∧ SlAt eX W5 a2 n2 c2 (endsF ids L) ∧ SlAt eN W5 a3 n3 c3 (nodesF ids L) ∧ ids.length = n3 ∧ (sdl L).length = n2) := ⟨G4.out.1.below b5, G4.out.2.1.1.below b5, G4.out.2.2.1.below b5, hid, by rw [← G4.out.2.1.1.len, endsF_len, sdl_len]⟩
    clear b5 hE G4 hid
    go_wp2_with fail
    refine (rsides_any a' m' c' (L.map Ne.eg) W5 G5.out.1.ed (by omega)).mono ?_
    rintro _ W ⟨⟨v, rfl, o2⟩, b7⟩
    obtain ⟨sa, sc, rfl, hS, _⟩ := o2.form
    have hr : (sidesE (L.map Ne.eg)).length = n2 := by rw [sdl_eg, List.length_map, G5.out.2.2.2.2]
    rw [hr] at hS ⊢
    have hri := hS.int
    have K : Hid (SlAt eU W a n3 c ids ∧ SlAt eX W a2 n2 c2 (endsF ids L) ∧ SlAt eN W a3 n3 c3 (nodesF ids L) ∧ SlAt eS W sa n2 sc (sidesE (L.map Ne.eg)) ∧ Below w.heap.size w W ∧ ids.length = n3 ∧ (sdl L).length = n2) := ⟨G5.out.1.sl.below b7, G5.out.2.1.below b7, G5.out.2.2.1.below b7, hS, below_over G5.out.1.bel b7, G5.out.2.2.2⟩
    clear o2 hS hr b7 G5
    go_wp2_with fail
    go_loopw [10] (fun v10 wr => ∃ t : Nat, t ≤ n2 ∧ v10 = .int .i64 t ∧ Below W.heap.size W wr) (fun v10 _ => n2 - (intOf v10).toNat)
    case atStart => exact ⟨0, by omega, rfl, Below.refl _ _⟩
    case round =>
      obtain ⟨t, ht, rfl, hB⟩ := hrel
      have ht0 : (0 : Int) ≤ (t : Int) := by omega
      by_cases htt : t < n2
      · have ht1 : (t : Int) < (n2 : Int) := by omega
        have htl : t < (sdl L).length := by rw [K.out.2.2.2.2.2.2]; exact htt
        obtain ⟨s, hs⟩ := lt_nth htl
        have hsm := List.mem_of_getElem? hs
        have hgs := HC.out.2.side s hsm
        obtain ⟨b2, o2, rfl⟩ := K.out.2.1.some' (by omega)
        obtain ⟨b4, o4, rfl⟩ := K.out.2.2.2.1.some' (by omega)
        have hn1 : 0 < n3 := by rw [← K.out.2.2.2.2.2.1]; omega
        obtain ⟨b1, o1, rfl⟩ := K.out.1.some' hn1
        obtain ⟨b3, o3, rfl⟩ := K.out.2.2.1.some' hn1
        have f3 := sde3 (K.out.2.2.2.1.below hB) hs
        have lb := ldnF (K.out.2.2.1.below hB) hgs.2.1
        obtain ⟨V, sV, rV, bV⟩ := NvAt.put wr ⟨kr ids L s.b, kc ids L s.b, rpOf ids L s.b⟩
        have hst := stable ids L HC.out.2 hsm
        have w1 := toldV_wf HC.out.2 (i := s.b) (p := s.pb) hgs.2.1 hgs.2.2.2.1
        have w2 := vec_wf HC.out.2 hsm
        have C1 : Hid (∀ X : World, _) := fun X => rbet_vk w1 w2 X
        have C2 : Hid (∀ X : World, _) := fun X => rbet_vk w2 w1 X
        rw [decide_eq_false hst.1] at C1
        have D : Hid ((sdl L)[t]? = some s ∧ s.b < ids.length ∧ s.pb ≤ 7 ∧ Below W.heap.size W V ∧ RvAt V wr.heap.size 40 (Nd.mk (kr ids L s.b) (kc ids L s.b) (rpOf ids L s.b)).cs) := ⟨hs, hgs.2.1, hgs.2.2.2.1, below_over hB bV, rV⟩
        rw [K.out.2.2.2.2.2.1] at hgs
        have hb0 : (0 : Int) ≤ (s.b : Int) := by omega
        have hb1 : (s.b : Int) < (n3 : Int) := by omega
        obtain ⟨zn, hzn⟩ : ∃ z, wr.heap.size = z := ⟨_, rfl⟩
        rw [hzn] at D sV
        obtain ⟨ro, hro⟩ : ∃ z, roleOf ids L s = z := ⟨_, rfl⟩
        obtain ⟨vv, hvv⟩ : ∃ z, vecOf ids L s = z := ⟨_, rfl⟩
        obtain ⟨tv, htv⟩ : ∃ z, toldV ids L s.b s.pb = z := ⟨_, rfl⟩
        have HS : Hid (((ro = 4) ↔ vk vv < vk tv) ∧ roleOf ids L s = ro ∧ vecOf ids L s = vv ∧ toldV ids L s.b s.pb = tv) := ⟨by rw [← hro, ← hvv, ← htv]; exact hst.2, hro, hvv, htv⟩
        rw [hvv, htv] at C1 C2
        clear hB hs hsm hgs htl hst w1 w2 rV bV hro hvv htv
        go_wp2_with fail
        clear f3 lb sV hzn
        go_cut [12] from 67 to 108 (fun v12 wx => ∃ z, v12 = .pointer (some ⟨z, 0, none⟩) ∧ RvAt wx z 46 tv.cs ∧ Below V.heap.size V wx)
        case first =>
          have x0 := fun q : Later V => NvAt.c0 (D.out.2.2.2.2.below q.below)
          have x1 := fun q : Later V => NvAt.c1 (D.out.2.2.2.2.below q.below)
          have x3 := fun q : Later V => sde3 ((K.out.2.2.2.1.below D.out.2.2.2.1).below q.below) D.out.1
          have x4 := fun q : Later V => sde4 ((K.out.2.2.2.1.below D.out.2.2.2.1).below q.below) D.out.1
          have xi : ∀ q : Later V, q.val.cell? ⟨b1, o1 + s.b, none⟩ = some (.int .u64 (idO ids s.b : Int)) := fun q => ldu ((K.out.1.below D.out.2.2.2.1).below q.below) (getD_at D.out.2.1)
          have bd := fun q : World => bdV_0 (kr ids L s.b : Int) (kc ids L s.b : Int) (idO ids s.b : Int) (32769 + (s.pb : Int)) q
          have TT : (V4.mk (kr ids L s.b : Int) (kc ids L s.b : Int) (idO ids s.b : Int) (32769 + (s.pb : Int))).cs = tv.cs := by rw [← HS.out.2.2.2]; rfl
          rw [TT] at bd
          clear TT
          obtain ⟨X0, hX0⟩ : ∃ X0, World.drew V = X0 := ⟨_, rfl⟩
          have B0 : Hid (Below V.heap.size V X0) := by rw [← hX0]; exact (Below.refl _ _).drew
          refine wp_region_noPanic ?_
          refine wp_region_held_drew (S := fun w' => ∃ x : Later V, w' = x.val) (by kernel_rfl) ⟨⟨_, (Below.refl _ _).drew⟩, rfl⟩ (fun hHeld => ?_)
          rw [hX0] at hHeld ⊢
          clear hX0
          refine wpAnyH_take (i := 0) (oi := { dst := some 67, op := Op.fieldAddr 40 (Operand.tmp 11) 0, type := 0, pos := "law.go:259", after := #[], guard := none }) (v := ?_) rfl (by kernel_rfl) (by kernel_rfl) (by kernel_rfl) (fun _ _ _ h => h) (Or.inl ⟨by rfl, ?_⟩) hHeld ?_
          rotate_left
          · intro W_ hSw_
            obtain ⟨q, rfl⟩ := hSw_
            first | (go_simp; done) | (go_simp; with_reducible rfl)
          rotate_left
          try simp only [Act.put, List.setIfInBounds_toArray, List.set_cons_zero, List.set_cons_succ]
          refine wpAnyH_take (i := 1) (oi := { dst := some 68, op := Op.load 37 (Operand.tmp 67), type := 37, pos := "law.go:259", after := #[{ on := 0, ground := Ground.data }], guard := none }) (v := ?_) rfl (by kernel_rfl) (by kernel_rfl) (by kernel_rfl) (fun _ _ _ h => h) (Or.inl ⟨by rfl, ?_⟩) hHeld ?_
          rotate_left
          · intro W_ hSw_
            obtain ⟨q, rfl⟩ := hSw_
            first | (go_simp; done) | (go_simp; with_reducible rfl)
          rotate_left
          try simp only [Act.put, List.setIfInBounds_toArray, List.set_cons_zero, List.set_cons_succ]
          refine wpAnyH_take (i := 2) (oi := { dst := some 69, op := Op.fieldAddr 40 (Operand.tmp 11) 1, type := 0, pos := "law.go:259", after := #[], guard := none }) (v := ?_) rfl (by kernel_rfl) (by kernel_rfl) (by kernel_rfl) (fun _ _ _ h => h) (Or.inl ⟨by rfl, ?_⟩) hHeld ?_
          rotate_left
          · intro W_ hSw_
            obtain ⟨q, rfl⟩ := hSw_
            first | (go_simp; done) | (go_simp; with_reducible rfl)
          rotate_left
          try simp only [Act.put, List.setIfInBounds_toArray, List.set_cons_zero, List.set_cons_succ]
          refine wpAnyH_take (i := 3) (oi := { dst := some 70, op := Op.load 38 (Operand.tmp 69), type := 38, pos := "law.go:259", after := #[{ on := 2, ground := Ground.data }], guard := none }) (v := ?_) rfl (by kernel_rfl) (by kernel_rfl) (by kernel_rfl) (fun _ _ _ h => h) (Or.inl ⟨by rfl, ?_⟩) hHeld ?_
          rotate_left
          · intro W_ hSw_
            obtain ⟨q, rfl⟩ := hSw_
            first | (go_simp; done) | (go_simp; with_reducible rfl)
          rotate_left
          try simp only [Act.put, List.setIfInBounds_toArray, List.set_cons_zero, List.set_cons_succ]
          refine wpAnyH_take (i := 4) (oi := { dst := some 71, op := Op.move (Operand.tmp 0), type := 22, pos := "law.go:259", after := #[], guard := none }) (v := ?_) rfl (by kernel_rfl) (by kernel_rfl) (by kernel_rfl) (fun _ _ _ h => h) (Or.inl ⟨by rfl, ?_⟩) hHeld ?_
          rotate_left
          · intro W_ hSw_
            obtain ⟨q, rfl⟩ := hSw_
            first | (go_simp; done) | (go_simp; with_reducible rfl)
          rotate_left
          try simp only [Act.put, List.setIfInBounds_toArray, List.set_cons_zero, List.set_cons_succ]
          refine wpAnyH_take (i := 5) (oi := { dst := some 72, op := Op.move (Operand.tmp 9), type := 35, pos := "law.go:259", after := #[], guard := none }) (v := ?_) rfl (by kernel_rfl) (by kernel_rfl) (by kernel_rfl) (fun _ _ _ h => h) (Or.inl ⟨by rfl, ?_⟩) hHeld ?_
          rotate_left
          · intro W_ hSw_
            obtain ⟨q, rfl⟩ := hSw_
            first | (go_simp; done) | (go_simp; with_reducible rfl)
          rotate_left
          try simp only [Act.put, List.setIfInBounds_toArray, List.set_cons_zero, List.set_cons_succ]
          refine wpAnyH_take (i := 6) (oi := { dst := some 73, op := Op.move (Operand.tmp 10), type := 3, pos := "law.go:259", after := #[], guard := none }) (v := ?_) rfl (by kernel_rfl) (by kernel_rfl) (by kernel_rfl) (fun _ _ _ h => h) (Or.inl ⟨by rfl, ?_⟩) hHeld ?_
          rotate_left
          · intro W_ hSw_
            obtain ⟨q, rfl⟩ := hSw_
            first | (go_simp; done) | (go_simp; with_reducible rfl)
          rotate_left
          try simp only [Act.put, List.setIfInBounds_toArray, List.set_cons_zero, List.set_cons_succ]
          refine wpAnyH_take (i := 7) (oi := { dst := some 74, op := Op.indexAddr 35 (Operand.tmp 72) (Operand.tmp 73), type := 0, pos := "law.go:259", after := #[{ on := 5, ground := Ground.data }, { on := 6, ground := Ground.data }], guard := none }) (v := ?_) rfl (by kernel_rfl) (by kernel_rfl) (by kernel_rfl) (fun _ _ _ h => h) (Or.inl ⟨by rfl, ?_⟩) hHeld ?_
          rotate_left
          · intro W_ hSw_
            obtain ⟨q, rfl⟩ := hSw_
            first | (go_simp; done) | (go_simp; with_reducible rfl)
          rotate_left
          try simp only [Act.put, List.setIfInBounds_toArray, List.set_cons_zero, List.set_cons_succ]
          refine wpAnyH_take (i := 8) (oi := { dst := some 75, op := Op.fieldAddr 42 (Operand.tmp 74) 3, type := 0, pos := "law.go:259", after := #[{ on := 7, ground := Ground.data }], guard := none }) (v := ?_) rfl (by kernel_rfl) (by kernel_rfl) (by kernel_rfl) (fun _ _ _ h => h) (Or.inl ⟨by rfl, ?_⟩) hHeld ?_
          rotate_left
          · intro W_ hSw_
            obtain ⟨q, rfl⟩ := hSw_
            first | (go_simp; done) | (go_simp; with_reducible rfl)
          rotate_left
          try simp only [Act.put, List.setIfInBounds_toArray, List.set_cons_zero, List.set_cons_succ]
          refine wpAnyH_take (i := 9) (oi := { dst := some 76, op := Op.load 3 (Operand.tmp 75), type := 3, pos := "law.go:259", after := #[{ on := 8, ground := Ground.data }], guard := none }) (v := ?_) rfl (by kernel_rfl) (by kernel_rfl) (by kernel_rfl) (fun _ _ _ h => h) (Or.inl ⟨by rfl, ?_⟩) hHeld ?_
          rotate_left
          · intro W_ hSw_
            obtain ⟨q, rfl⟩ := hSw_
            first | (go_simp; done) | (go_simp; with_reducible rfl)
          rotate_left
          try simp only [Act.put, List.setIfInBounds_toArray, List.set_cons_zero, List.set_cons_succ]
          refine wpAnyH_take (i := 10) (oi := { dst := some 77, op := Op.indexAddr 22 (Operand.tmp 71) (Operand.tmp 76), type := 0, pos := "law.go:259", after := #[{ on := 4, ground := Ground.data }, { on := 9, ground := Ground.data }], guard := none }) (v := ?_) rfl (by kernel_rfl) (by kernel_rfl) (by kernel_rfl) (fun _ _ _ h => h) (Or.inl ⟨by rfl, ?_⟩) hHeld ?_
          rotate_left
          · intro W_ hSw_
            obtain ⟨q, rfl⟩ := hSw_
            first | (go_simp; done) | (go_simp; with_reducible rfl)
          rotate_left
          try simp only [Act.put, List.setIfInBounds_toArray, List.set_cons_zero, List.set_cons_succ]
          refine wpAnyH_take (i := 11) (oi := { dst := some 78, op := Op.load 37 (Operand.tmp 77), type := 37, pos := "law.go:259", after := #[{ on := 10, ground := Ground.data }], guard := none }) (v := ?_) rfl (by kernel_rfl) (by kernel_rfl) (by kernel_rfl) (fun _ _ _ h => h) (Or.inl ⟨by rfl, ?_⟩) hHeld ?_
          rotate_left
          · intro W_ hSw_
            obtain ⟨q, rfl⟩ := hSw_
            first | (go_simp; done) | (go_simp; with_reducible rfl)
          rotate_left
          try simp only [Act.put, List.setIfInBounds_toArray, List.set_cons_zero, List.set_cons_succ]
          refine wpAnyH_take (i := 12) (oi := { dst := some 79, op := Op.move (Operand.tmp 9), type := 35, pos := "law.go:259", after := #[], guard := none }) (v := ?_) rfl (by kernel_rfl) (by kernel_rfl) (by kernel_rfl) (fun _ _ _ h => h) (Or.inl ⟨by rfl, ?_⟩) hHeld ?_
          rotate_left
          · intro W_ hSw_
            obtain ⟨q, rfl⟩ := hSw_
            first | (go_simp; done) | (go_simp; with_reducible rfl)
          rotate_left
          try simp only [Act.put, List.setIfInBounds_toArray, List.set_cons_zero, List.set_cons_succ]
          refine wpAnyH_take (i := 13) (oi := { dst := some 80, op := Op.move (Operand.tmp 10), type := 3, pos := "law.go:259", after := #[], guard := none }) (v := ?_) rfl (by kernel_rfl) (by kernel_rfl) (by kernel_rfl) (fun _ _ _ h => h) (Or.inl ⟨by rfl, ?_⟩) hHeld ?_
          rotate_left
          · intro W_ hSw_
            obtain ⟨q, rfl⟩ := hSw_
            first | (go_simp; done) | (go_simp; with_reducible rfl)
          rotate_left
          try simp only [Act.put, List.setIfInBounds_toArray, List.set_cons_zero, List.set_cons_succ]
          refine wpAnyH_take (i := 14) (oi := { dst := some 81, op := Op.indexAddr 35 (Operand.tmp 79) (Operand.tmp 80), type := 0, pos := "law.go:259", after := #[{ on := 12, ground := Ground.data }, { on := 13, ground := Ground.data }], guard := none }) (v := ?_) rfl (by kernel_rfl) (by kernel_rfl) (by kernel_rfl) (fun _ _ _ h => h) (Or.inl ⟨by rfl, ?_⟩) hHeld ?_
          rotate_left
          · intro W_ hSw_
            obtain ⟨q, rfl⟩ := hSw_
            first | (go_simp; done) | (go_simp; with_reducible rfl)
          rotate_left
          try simp only [Act.put, List.setIfInBounds_toArray, List.set_cons_zero, List.set_cons_succ]
          refine wpAnyH_take (i := 15) (oi := { dst := some 82, op := Op.fieldAddr 42 (Operand.tmp 81) 4, type := 0, pos := "law.go:259", after := #[{ on := 14, ground := Ground.data }], guard := none }) (v := ?_) rfl (by kernel_rfl) (by kernel_rfl) (by kernel_rfl) (fun _ _ _ h => h) (Or.inl ⟨by rfl, ?_⟩) hHeld ?_
          rotate_left
          · intro W_ hSw_
            obtain ⟨q, rfl⟩ := hSw_
            first | (go_simp; done) | (go_simp; with_reducible rfl)
          rotate_left
          try simp only [Act.put, List.setIfInBounds_toArray, List.set_cons_zero, List.set_cons_succ]
          refine wpAnyH_take (i := 16) (oi := { dst := some 83, op := Op.load 3 (Operand.tmp 82), type := 3, pos := "law.go:259", after := #[{ on := 15, ground := Ground.data }], guard := none }) (v := ?_) rfl (by kernel_rfl) (by kernel_rfl) (by kernel_rfl) (fun _ _ _ h => h) (Or.inl ⟨by rfl, ?_⟩) hHeld ?_
          rotate_left
          · intro W_ hSw_
            obtain ⟨q, rfl⟩ := hSw_
            first | (go_simp; done) | (go_simp; with_reducible rfl)
          rotate_left
          try simp only [Act.put, List.setIfInBounds_toArray, List.set_cons_zero, List.set_cons_succ]
          refine wpAnyH_ready (rs := [17, 19]) (by kernel_rfl) (by simp) ?_
          refine (AllReadyH.cons (o := { dst := some 84, op := Op.call { callee := Callee.value (Operand.func 11), args := #[Operand.tmp 83], argTypes := #[3] }, type := 43, pos := "law.go:259", after := #[{ on := 16, ground := Ground.data }], guard := none }) rfl (fun K hK => ?_) (AllReadyH.cons (o := { dst := some 12, op := Op.alloc 46, type := 0, pos := "law.go:259", after := #[], guard := none }) rfl (fun K hK => ?_) AllReadyH.nil))
          · skip
            go_simp
            refine (portid_any s.pb X0 D.out.2.2.1).mono ?_
            rintro _ X1 ⟨rfl, bb⟩
            have B1 : Hid (Below V.heap.size V X1) := below_over B0.out bb
            clear bb
            clear hHeld
            refine hK.out _ _ ⟨⟨_, B1.out⟩, rfl⟩ (fun hHeld => ?_)
            clear hK
            try simp only [Act.put, List.setIfInBounds_toArray, List.set_cons_zero, List.set_cons_succ]
            refine wpAnyH_take (i := 18) (oi := { dst := some 85, op := Op.build 46 #[(0, Operand.tmp 68), (1, Operand.tmp 70), (2, Operand.tmp 78), (3, Operand.tmp 84)], type := 46, pos := "law.go:259", after := #[{ on := 1, ground := Ground.data }, { on := 3, ground := Ground.data }, { on := 11, ground := Ground.data }, { on := 17, ground := Ground.data }], guard := none }) (v := ?_) rfl (by kernel_rfl) (by kernel_rfl) (by kernel_rfl) (fun _ _ _ h => h) (Or.inl ⟨by rfl, ?_⟩) hHeld ?_
            rotate_left
            · intro W_ hSw_
              obtain ⟨q, rfl⟩ := hSw_
              first | (go_simp; done) | (go_simp; with_reducible rfl)
            rotate_left
            try simp only [Act.put, List.setIfInBounds_toArray, List.set_cons_zero, List.set_cons_succ]
            refine wpAnyH_ready (rs := [19]) (by kernel_rfl) (by simp) ?_
            refine AllReadyH.cons (o := { dst := some 12, op := Op.alloc 46, type := 0, pos := "law.go:259", after := #[], guard := none }) rfl (fun K hK => ?_) AllReadyH.nil
            obtain ⟨X2, hN⟩ : ∃ z, X1.alloc (.cells #[.int .u64 0, .int .u32 0, .int .u64 0, .int .u16 0] 46) = z := ⟨_, rfl⟩
            obtain ⟨z, hz⟩ : ∃ z, X1.heap.size = z := ⟨_, rfl⟩
            have B2 : Hid (Below V.heap.size V X2) := by rw [← hN]; exact below_over B1.out ((Below.refl _ _).alloc (Nat.le_refl _) _)
            have p2 : Hid (RvAt X2 z 46 #[.int .u64 0, .int .u32 0, .int .u64 0, .int .u16 0] ∧ V.heap.size ≤ z) := ⟨by rw [← hN, ← hz]; exact RvAt.new _ _ _, by rw [← hz]; exact B1.out.size⟩
            go_simp
            clear hN hz
            clear hHeld
            refine hK.out _ _ ⟨⟨_, B2.out⟩, rfl⟩ (fun hHeld => ?_)
            clear hK
            try simp only [Act.put, List.setIfInBounds_toArray, List.set_cons_zero, List.set_cons_succ]
            refine wpAnyH_ready (rs := [20]) (by kernel_rfl) (by simp) ?_
            refine AllReadyH.cons (o := { dst := none, op := Op.store 46 (Operand.tmp 12) (Operand.tmp 85), type := 0, pos := "law.go:259", after := #[{ on := 19, ground := Ground.data }, { on := 18, ground := Ground.data }, { on := 17, ground := Ground.chain }, { on := 0, ground := Ground.phase }, { on := 1, ground := Ground.phase }, { on := 2, ground := Ground.phase }, { on := 3, ground := Ground.phase }, { on := 4, ground := Ground.phase }, { on := 5, ground := Ground.phase }, { on := 6, ground := Ground.phase }, { on := 7, ground := Ground.phase }, { on := 8, ground := Ground.phase }, { on := 9, ground := Ground.phase }, { on := 10, ground := Ground.phase }, { on := 11, ground := Ground.phase }, { on := 12, ground := Ground.phase }, { on := 13, ground := Ground.phase }, { on := 14, ground := Ground.phase }, { on := 15, ground := Ground.phase }, { on := 16, ground := Ground.phase }, { on := 17, ground := Ground.phase }, { on := 18, ground := Ground.phase }, { on := 19, ground := Ground.phase }], guard := none }) rfl (fun K hK => ?_) AllReadyH.nil
            have st3 := p2.out.1.st rtV (ds := tv.cs) rfl rfl (V4.one _)
            obtain ⟨X3, hN⟩ : ∃ u, X2.setRow z tv.cs = u := ⟨_, rfl⟩
            rw [hN] at st3
            have B3 : Hid (Below V.heap.size V X3) := by rw [← hN]; exact below_setRow B2.out p2.out.2 _
            have p3 : Hid (RvAt X3 z 46 tv.cs ∧ V.heap.size ≤ z) := ⟨by rw [← hN]; exact p2.out.1.set, p2.out.2⟩
            go_simp
            clear hN st3
            clear hHeld
            refine hK.out _ _ ⟨⟨_, B3.out⟩, rfl⟩ (fun hHeld => ?_)
            clear hK
            try simp only [Act.put, List.setIfInBounds_toArray, List.set_cons_zero, List.set_cons_succ]
            refine wpAnyH_done (by kernel_rfl) ?_ _
            refine NoPanic.normal ?_
            clear hHeld
            go_wp2_with fail
            go_meet
            exact ⟨z, rfl, p3.out.1, B3.out⟩
          · skip
            obtain ⟨X4, hN⟩ : ∃ z, X0.alloc (.cells #[.int .u64 0, .int .u32 0, .int .u64 0, .int .u16 0] 46) = z := ⟨_, rfl⟩
            obtain ⟨z, hz⟩ : ∃ z, X0.heap.size = z := ⟨_, rfl⟩
            have B4 : Hid (Below V.heap.size V X4) := by rw [← hN]; exact below_over B0.out ((Below.refl _ _).alloc (Nat.le_refl _) _)
            have p4 : Hid (RvAt X4 z 46 #[.int .u64 0, .int .u32 0, .int .u64 0, .int .u16 0] ∧ V.heap.size ≤ z) := ⟨by rw [← hN, ← hz]; exact RvAt.new _ _ _, by rw [← hz]; exact B0.out.size⟩
            go_simp
            clear hN hz
            clear hHeld
            refine hK.out _ _ ⟨⟨_, B4.out⟩, rfl⟩ (fun hHeld => ?_)
            clear hK
            try simp only [Act.put, List.setIfInBounds_toArray, List.set_cons_zero, List.set_cons_succ]
            refine wpAnyH_ready (rs := [17]) (by kernel_rfl) (by simp) ?_
            refine AllReadyH.cons (o := { dst := some 84, op := Op.call { callee := Callee.value (Operand.func 11), args := #[Operand.tmp 83], argTypes := #[3] }, type := 43, pos := "law.go:259", after := #[{ on := 16, ground := Ground.data }], guard := none }) rfl (fun K hK => ?_) AllReadyH.nil
            go_simp
            refine (portid_any s.pb X4 D.out.2.2.1).mono ?_
            rintro _ X5 ⟨rfl, bb⟩
            have B5 : Hid (Below V.heap.size V X5) := below_over B4.out bb
            have p5 : Hid (RvAt X5 z 46 #[.int .u64 0, .int .u32 0, .int .u64 0, .int .u16 0] ∧ V.heap.size ≤ z) := ⟨p4.out.1.below bb, p4.out.2⟩
            clear bb
            clear hHeld
            refine hK.out _ _ ⟨⟨_, B5.out⟩, rfl⟩ (fun hHeld => ?_)
            clear hK
            try simp only [Act.put, List.setIfInBounds_toArray, List.set_cons_zero, List.set_cons_succ]
            refine wpAnyH_take (i := 18) (oi := { dst := some 85, op := Op.build 46 #[(0, Operand.tmp 68), (1, Operand.tmp 70), (2, Operand.tmp 78), (3, Operand.tmp 84)], type := 46, pos := "law.go:259", after := #[{ on := 1, ground := Ground.data }, { on := 3, ground := Ground.data }, { on := 11, ground := Ground.data }, { on := 17, ground := Ground.data }], guard := none }) (v := ?_) rfl (by kernel_rfl) (by kernel_rfl) (by kernel_rfl) (fun _ _ _ h => h) (Or.inl ⟨by rfl, ?_⟩) hHeld ?_
            rotate_left
            · intro W_ hSw_
              obtain ⟨q, rfl⟩ := hSw_
              first | (go_simp; done) | (go_simp; with_reducible rfl)
            rotate_left
            try simp only [Act.put, List.setIfInBounds_toArray, List.set_cons_zero, List.set_cons_succ]
            refine wpAnyH_ready (rs := [20]) (by kernel_rfl) (by simp) ?_
            refine AllReadyH.cons (o := { dst := none, op := Op.store 46 (Operand.tmp 12) (Operand.tmp 85), type := 0, pos := "law.go:259", after := #[{ on := 19, ground := Ground.data }, { on := 18, ground := Ground.data }, { on := 17, ground := Ground.chain }, { on := 0, ground := Ground.phase }, { on := 1, ground := Ground.phase }, { on := 2, ground := Ground.phase }, { on := 3, ground := Ground.phase }, { on := 4, ground := Ground.phase }, { on := 5, ground := Ground.phase }, { on := 6, ground := Ground.phase }, { on := 7, ground := Ground.phase }, { on := 8, ground := Ground.phase }, { on := 9, ground := Ground.phase }, { on := 10, ground := Ground.phase }, { on := 11, ground := Ground.phase }, { on := 12, ground := Ground.phase }, { on := 13, ground := Ground.phase }, { on := 14, ground := Ground.phase }, { on := 15, ground := Ground.phase }, { on := 16, ground := Ground.phase }, { on := 17, ground := Ground.phase }, { on := 18, ground := Ground.phase }, { on := 19, ground := Ground.phase }], guard := none }) rfl (fun K hK => ?_) AllReadyH.nil
            have st6 := p5.out.1.st rtV (ds := tv.cs) rfl rfl (V4.one _)
            obtain ⟨X6, hN⟩ : ∃ u, X5.setRow z tv.cs = u := ⟨_, rfl⟩
            rw [hN] at st6
            have B6 : Hid (Below V.heap.size V X6) := by rw [← hN]; exact below_setRow B5.out p5.out.2 _
            have p6 : Hid (RvAt X6 z 46 tv.cs ∧ V.heap.size ≤ z) := ⟨by rw [← hN]; exact p5.out.1.set, p5.out.2⟩
            go_simp
            clear hN st6
            clear hHeld
            refine hK.out _ _ ⟨⟨_, B6.out⟩, rfl⟩ (fun hHeld => ?_)
            clear hK
            try simp only [Act.put, List.setIfInBounds_toArray, List.set_cons_zero, List.set_cons_succ]
            refine wpAnyH_done (by kernel_rfl) ?_ _
            refine NoPanic.normal ?_
            clear hHeld
            go_wp2_with fail
            go_meet
            exact ⟨z, rfl, p6.out.1, B6.out⟩
        case rest =>
          obtain ⟨zv, rfl, rv, bX⟩ := hcut
          have hEX := endsF_sd (ids := ids) D.out.1
          have bW := below_over D.out.2.2.2.1 bX
          have y0 := fun q : Later wc => (rv.below q.below).ld rtV rfl
          have y1 := fun q : Later wc => vX ((K.out.2.1.below bW).below q.below) hEX
          have y2 := fun q : Later wc => cX2 ((K.out.2.1.below bW).below q.below) hEX
          have z1 : (endOf ids L s).v = vv := HS.out.2.2.1
          have z2 : (endOf ids L s).o = ro := HS.out.2.1
          rw [z1] at y1
          rw [z2] at y2
          have J : Hid (Below W.heap.size W wc) := bW
          clear z1 z2 rv bX hEX bW
          cases hq : decide (vk vv < vk tv)
          · have hro : (ro == 4) = false := beq_eq_false_iff_ne.2 (fun e => by have := HS.out.1.1 e; have := of_decide_eq_false hq; omega)
            rw [hq] at C2
            have P1 : Hid (∀ q : Later wc, _) := fun q : Later wc => C1.out q.val
            have P2 : Hid (∀ q : Later wc, _) := fun q : Later wc => C2.out q.val
            clear hq
            go_wp2_with fail
            refine wp_region_later (by kernel_rfl) (by kernel_rfl) ?_
            repeat (go_big_quiet_step (first | exact rfl | (go_at_call 12; with_reducible exact Calls.later_of (P1.out _)) | (go_at_call 12; with_reducible exact Calls.later_of (P2.out _))))
            refine wpQuiet_nil ?_
            intro _ hw'
            obtain ⟨q, rfl⟩ := hw'
            go_wp2
            go_roundw
            case rel => exact ⟨t + 1, by omega, by go_num, below_later J.out q⟩
            case measure => simp [intOf]; omega
          · have hro : ro = 4 := HS.out.1.2 (of_decide_eq_true hq)
            rw [hq] at C2
            have P1 : Hid (∀ q : Later wc, _) := fun q : Later wc => C1.out q.val
            have P2 : Hid (∀ q : Later wc, _) := fun q : Later wc => C2.out q.val
            clear hq
            rw [hro] at y2
            clear hro
            go_wp2_with fail
            refine wp_region_later (by kernel_rfl) (by kernel_rfl) ?_
            repeat (go_big_quiet_step (first | exact rfl | (go_at_call 12; with_reducible exact Calls.later_of (P1.out _)) | (go_at_call 12; with_reducible exact Calls.later_of (P2.out _))))
            refine wpQuiet_nil ?_
            intro _ hw'
            obtain ⟨q, rfl⟩ := hw'
            go_wp2
            go_roundw
            case rel => exact ⟨t + 1, by omega, by go_num, below_later J.out q⟩
            case measure => simp [intOf]; omega
      · have htn : t = n2 := by omega
        subst htn
        have ht1 : ¬ (t : Int) < (t : Int) := by omega
        have J4 : Hid (Below w.heap.size w wr) := below_over K.out.2.2.2.2.1 hB
        clear hB
        go_wp2_with fail
        refine (awake_any wr).mono ?_
        rintro _ W9 ⟨rfl, b9⟩
        have B9 : Hid (Below w.heap.size w W9) := below_over J4.out b9
        clear b9
        go_wp2
        go_ret
        exact ⟨rfl, B9.out⟩
end Go.Proofs.Ytcagdfdhpbeolab
