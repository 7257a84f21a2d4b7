/-
  All ports, and the edges that carry: the walks of Ends and Tree, for every input.
-/
import Derived.Test.YtcagdfdhpbeolaaEnd
namespace Go.Proofs.Ytcagdfdhpbeolaa
set_option linter.unusedVariables false
set_option maxRecDepth 4000
set_option linter.unusedSimpArgs false
open Go.RowKit

/-- What Ends, and Tree, tell. -/
def endO (ids : List Nat) (es : List Eg) (N : List En) : Prop := (chkI ids es = false ∧ N = []) ∨ ∃ L, es = L.map Ne.eg ∧ Gok ids L ∧ chkI ids es = true ∧ N = endsF ids L
def treO (ids : List Nat) (es : List Eg) (N : List Int) : Prop := (chkI ids es = false ∧ N = []) ∨ ∃ L, es = L.map Ne.eg ∧ Gok ids L ∧ chkI ids es = true ∧ N = treeF ids L
def endsTo (ids : List Nat) (L : List Ne) (t : Nat) : List En := ((sdl L).take t).map (endOf ids L)
theorem endsTo_next {ids : List Nat} {L : List Ne} {t : Nat} {s : Ne} (h : (sdl L)[t]? = some s) : endsTo ids L (t + 1) = endsTo ids L t ++ [endOf ids L s] := by
  unfold endsTo
  rw [List.take_add_one, h, List.map_append]
  rfl
theorem endsTo_len (ids : List Nat) (L : List Ne) (t : Nat) : (endsTo ids L t).length ≤ t := by
  unfold endsTo
  rw [List.length_map, List.length_take]
  omega
theorem endsTo_all {ids : List Nat} {L : List Ne} {t : Nat} (h : 2 * L.length ≤ t) : endsTo ids L t = endsF ids L := by
  unfold endsTo endsF
  rw [List.take_of_length_le (by rw [sdl_len]; exact h)]
theorem treeTo_yes {ids : List Nat} {L : List Ne} {i : Nat} {x : Ne} (h : L[i]? = some x) (hc : carB ids L x = true) : treeTo ids L (i + 1) = treeTo ids L i ++ [(i : Int)] := by
  unfold treeTo
  rw [List.range_succ, List.filter_append, List.map_append]
  simp [h, hc]
theorem treeTo_no {ids : List Nat} {L : List Ne} {i : Nat} {x : Ne} (h : L[i]? = some x) (hc : carB ids L x = false) : treeTo ids L (i + 1) = treeTo ids L i := by
  unfold treeTo
  rw [List.range_succ, List.filter_append, List.map_append]
  simp [h, hc]
theorem treeTo_len (ids : List Nat) (L : List Ne) (m : Nat) : (treeTo ids L m).length ≤ m := by
  unfold treeTo
  rw [List.length_map]
  exact Nat.le_trans (List.length_filter_le _ _) (by rw [List.length_range]; exact Nat.le_refl _)
theorem endsF_at {ids : List Nat} {L : List Ne} {i j : Nat} {x : Ne} (h : L[i]? = some x) (hj : j < 2) : (endsF ids L)[2 * i + j]? = some (endOf ids L (sdN x j)) := by
  unfold endsF
  rw [List.getElem?_map, sdl_at h hj]
  rfl
theorem endsF_len (ids : List Nat) (L : List Ne) : (endsF ids L).length = 2 * L.length := by
  unfold endsF
  rw [List.length_map, sdl_len]
theorem map_eg_inj {L L' : List Ne} (h : L.map Ne.eg = L'.map Ne.eg) : L = L' := by
  have inj : ∀ (x y : Ne), x.eg = y.eg → x = y := fun x y e => by
    cases x; cases y
    simp only [Ne.eg, Eg.mk.injEq] at e
    simp only [Ne.mk.injEq]
    omega
  refine List.ext_getElem? fun i => ?_
  have := congrArg (fun l => l[i]?) h
  simp only [List.getElem?_map] at this
  cases h1 : L[i]? with
  | none =>
    rw [h1] at this
    cases h2 : L'[i]? with
    | none => rfl
    | some y => rw [h2] at this; cases this
  | some x =>
    rw [h1] at this
    cases h2 : L'[i]? with
    | none => rw [h2] at this; cases this
    | some y =>
      rw [h2] at this
      simp only [Option.map_some, Option.some.injEq] at this
      rw [inj x y this]
theorem endO_is {ids : List Nat} {L : List Ne} {N : List En} (h : endO ids (L.map Ne.eg) N) (hc : chkI ids (L.map Ne.eg) = true) : N = endsF ids L := by
  rcases h with ⟨h0, _⟩ | ⟨L', hL', _, _, hN'⟩
  · rw [hc] at h0; cases h0
  · rw [map_eg_inj hL']; exact hN'
theorem nodO_is {ids : List Nat} {L : List Ne} {N : List Nd} (h : nodO ids (L.map Ne.eg) N) (hc : chkI ids (L.map Ne.eg) = true) : N = nodesF ids L := by
  rcases h with ⟨h0, _⟩ | ⟨L', hL', _, _, hN'⟩
  · rw [hc] at h0; cases h0
  · rw [map_eg_inj hL']; exact hN'
theorem treO_is {ids : List Nat} {L : List Ne} {N : List Int} (h : treO ids (L.map Ne.eg) N) (hc : chkI ids (L.map Ne.eg) = true) : N = treeF ids L := by
  rcases h with ⟨h0, _⟩ | ⟨L', hL', _, _, hN'⟩
  · rw [hc] at h0; cases h0
  · rw [map_eg_inj hL']; exact hN'
theorem nodesF_at {ids : List Nat} {L : List Ne} {i : Nat} (h : i < ids.length) : (nodesF ids L)[i]? = some ⟨kr ids L i, kc ids L i, rpOf ids L i⟩ := ndAt_at _ h
theorem nodesF_len (ids : List Nat) (L : List Ne) : (nodesF ids L).length = ids.length := ndAt_len _ _ _
theorem endsF_sd {ids : List Nat} {L : List Ne} {t : Nat} {s : Ne} (h : (sdl L)[t]? = some s) : (endsF ids L)[t]? = some (endOf ids L s) := by
  unfold endsF
  rw [List.getElem?_map, h]
  rfl
attribute [local go_sem ↓] ldT stT ldE stE apX bsX apI bsI
set_option maxHeartbeats 4000000 in
theorem ends_any (a : Option Addr) (n c : Nat) (ids : List Nat) (a' : Option Addr) (n' c' : Nat) (es : List Eg) (w : World) (hs : SlAt eU w a n c ids) (ht : SlAt eE w a' n' c' es) (hl : ∀ x ∈ ids, x < 18446744073709551616) (hn : n ≤ 100) (hm : n' ≤ 100) :
    Calls Try.prog 17 #[.slice a n c, .slice a' n' c'] w fun r w' => (∃ a2 n2 c2 N, r = .returned (.tuple #[.slice a2 n2 c2, .int .i64 (errI ids es)]) ∧ SlAt eX w' a2 n2 c2 N ∧ endO ids es N) ∧ Below w.heap.size w w' := by
  have C : Hid _ := scheck_any a n c ids a' n' c' es w hs ht hl hn hm
  have hmm := ht.int
  have HG : Hid (SlAt eU w a n c ids ∧ SlAt eE w a' n' c' es ∧ (∀ x ∈ ids, x < 18446744073709551616)) := ⟨hs, ht, hl⟩
  have hm2 : n' ≤ 100 := hm
  clear hs ht hn hm hl
  cases hc : chkI ids es
  · rw [err_no hc] at C ⊢
    have HC : Hid (chkI ids es = false) := hc
    clear hc
    go_enter Try.func17, Try.ntmps17
    go_wp2_with fail
    refine Calls.mono C.out ?_
    rintro _ W1 ⟨rfl, b1⟩
    go_wp2
    go_returns
    exact ⟨⟨none, 0, 0, [], rfl, SlAt.none' _, .inl ⟨HC.out, rfl⟩⟩, b1⟩
  · rw [err_ok hc] at C ⊢
    obtain ⟨L, rfl, G⟩ := gok_of hc HG.out.2.2
    have hLl : L.length = n' := by rw [← HG.out.2.1.len, List.length_map]
    have HC : Hid (chkI ids (L.map Ne.eg) = true ∧ Gok ids L ∧ L.length = n') := ⟨hc, G, hLl⟩
    clear hc G hLl
    go_enter Try.func17, Try.ntmps17
    go_wp2_with fail
    refine Calls.mono C.out ?_
    rintro _ W1 ⟨rfl, b1⟩
    have B1 : Hid (Below w.heap.size w W1) := b1
    clear b1
    go_wp2_with fail
    refine (settle_any a n c ids a' n' c' L W1 (HG.out.1.below B1.out) (HG.out.2.1.below B1.out) HC.out.2.1).mono ?_
    rintro _ W2 ⟨⟨g, c2, rfl, hq, _⟩, b2⟩
    obtain ⟨V, sV, rV, bV, _⟩ := row_new rtT W2 #[.slice none 0 0, .slice none 0 0] (tre a n c g c2) rfl rfl (tre_one _ _ _ _ _)
    have K : Hid (TQ V a n c g c2 ids L (rpOf ids L) ∧ RvAt V W2.heap.size 68 (tre a n c g c2) ∧ Below w.heap.size w V) := ⟨hq.below bV, rV, below_over (below_over B1.out b2) bV⟩
    obtain ⟨tb, htb⟩ : ∃ z, W2.heap.size = z := ⟨_, rfl⟩
    rw [htb] at K sV
    clear hq b2 rV bV C
    go_wp2_with fail
    clear sV htb
    go_loopw [8, 24] (fun v8 v24 wr => ∃ e : Nat, e ≤ n' ∧ v24 = .int .i64 e ∧ Own eX wr V.heap.size v8 (endsTo ids L (2 * e)) ∧ Below V.heap.size V wr) (fun _ v24 _ => n' - (intOf v24).toNat)
    case atStart => exact ⟨0, by omega, rfl, Own.nil _ _, Below.refl _ _⟩
    case round =>
      obtain ⟨e, he, rfl, hO, hB⟩ := hrel
      have he0 : (0 : Int) ≤ (e : Int) := by omega
      by_cases het : e < n'
      · have he1 : (e : Int) < (n' : Int) := by omega
        have hel : e < L.length := by rw [HC.out.2.2]; exact het
        obtain ⟨b, o, rfl⟩ := HG.out.2.1.some' (by omega)
        obtain ⟨x, hx⟩ := lt_nth hel
        have lp := lde' (HG.out.2.1.below (below_over K.out.2.2 hB)) hx
        obtain ⟨V1, sV, vE, bV⟩ := EvAt.put wr x.eg
        have lv := vE.ld
        have J : Hid (Own eX V1 V.heap.size u8 (endsTo ids L (2 * e)) ∧ Below V.heap.size V V1 ∧ L[e]? = some x) := ⟨hO.below bV, below_over hB bV, hx⟩
        clear hO hB vE bV hx hel
        go_wp2_with fail
        refine (sides_any x.eg V1).mono ?_
        rintro _ V2 ⟨rfl, b2⟩
        have J1 : Hid (Own eX V2 V.heap.size u8 (endsTo ids L (2 * e)) ∧ Below V.heap.size V V2) := ⟨J.out.1.below b2, below_over J.out.2.1 b2⟩
        clear b2 lp sV lv
        go_wp2_with fail
        go_loopw [8, 30] (fun v8 v30 wr => ∃ j : Nat, j ≤ 2 ∧ v30 = .int .i64 j ∧ Own eX wr V.heap.size v8 (endsTo ids L (2 * e + j)) ∧ Below V.heap.size V wr) (fun _ v30 _ => 2 - (intOf v30).toNat)
        case atStart => exact ⟨0, by omega, rfl, J1.out.1, J1.out.2⟩
        case round =>
          obtain ⟨j, hj, rfl, hO, hB⟩ := hrel
          have hj0 : (0 : Int) ≤ (j : Int) := by omega
          by_cases hj2 : j < 2
          · have hj1 : (j : Int) < 2 := by omega
            have ix := ixB x.eg j hj2
            rw [← sdN_eg] at ix
            have hst := sdl_at J.out.2.2 hj2
            have hsm := sdl_mem J.out.2.2 hj2
            obtain ⟨s, hs⟩ : ∃ s, sdN x j = s := ⟨_, rfl⟩
            rw [hs] at ix hst hsm
            obtain ⟨V3, sV, vE, bV⟩ := EvAt.put wr s.eg
            have lv := vE.ld
            have lt := ((K.out.2.1.below hB).below bV).ld rtT rfl
            have D : Hid (Own eX V3 V.heap.size u8 (endsTo ids L (2 * e + j)) ∧ Below V.heap.size V V3 ∧ (sdl L)[2 * e + j]? = some s ∧ s ∈ sdl L) := ⟨hO.below bV, below_over hB bV, hst, hsm⟩
            clear hO hB vE bV hst hsm hs
            go_wp2_with fail
            refine (end_any a n c g c2 ids L s V3 (K.out.1.below D.out.2.1) D.out.2.2.2).mono ?_
            rintro _ V4 ⟨rfl, b4⟩
            have bs := bsX_is (endOf ids L s) V4
            obtain ⟨v', Y, ap, o2, b5⟩ := nX (D.out.1.below b4) (Nat.le_trans D.out.2.1.size b4.size) (by have := endsTo_len ids L (2 * e + j); omega) (endOf ids L s)
            have Z : Hid (Own eX Y V.heap.size v' (endsTo ids L (2 * e + (j + 1))) ∧ Below V.heap.size V Y) := ⟨by show Own eX Y V.heap.size v' (endsTo ids L ((2 * e + j) + 1)); rw [endsTo_next D.out.2.2.1]; exact o2, (below_over D.out.2.1 b4).trans b5⟩
            clear o2 b4 b5
            go_wp2
            go_roundw
            case rel => exact ⟨j + 1, by omega, by go_num, Z.out.1, Z.out.2⟩
            case measure => simp [intOf]; omega
          · have hjj : j = 2 := by omega
            subst hjj
            have Z : Hid (Own eX wr V.heap.size u8 (endsTo ids L (2 * (e + 1))) ∧ Below V.heap.size V wr) := ⟨hO, hB⟩
            clear hO hB
            go_wp2
            go_roundw
            case rel => exact ⟨e + 1, by omega, by go_num, Z.out.1, Z.out.2⟩
            case measure => simp [intOf]; omega
      · have hen : e = n' := by omega
        subst hen
        have he1 : ¬ (e : Int) < (e : Int) := by omega
        rw [endsTo_all (by rw [HC.out.2.2]; exact Nat.le_refl _)] at hO
        obtain ⟨sa, sc, hv, hS, _⟩ := hO.form
        subst hv
        obtain ⟨m, hm⟩ : ∃ m, (endsF ids L).length = m := ⟨_, rfl⟩
        rw [hm] at hS ⊢
        have Z : Hid (SlAt eX wr sa m sc (endsF ids L) ∧ Below w.heap.size w wr) := ⟨hS, below_over K.out.2.2 hB⟩
        clear hO hB hS hm
        go_wp2
        go_returns
        exact ⟨⟨_, _, _, rfl, _, Z.out.1, .inr ⟨L, rfl, HC.out.2.1, HC.out.1, rfl⟩⟩, Z.out.2⟩
set_option maxHeartbeats 4000000 in
theorem tree_any (a : Option Addr) (n c : Nat) (ids : List Nat) (a' : Option Addr) (n' c' : Nat) (es : List Eg) (w : World) (hs : SlAt eU w a n c ids) (ht : SlAt eE w a' n' c' es) (hl : ∀ x ∈ ids, x < 18446744073709551616) (hn : n ≤ 100) (hm : n' ≤ 100) :
    Calls Try.prog 19 #[.slice a n c, .slice a' n' c'] w fun r w' => (∃ a2 n2 c2 N, r = .returned (.tuple #[.slice a2 n2 c2, .int .i64 (errI ids es)]) ∧ SlAt eI w' a2 n2 c2 N ∧ treO ids es N) ∧ Below w.heap.size w w' := by
  have C : Hid _ := scheck_any a n c ids a' n' c' es w hs ht hl hn hm
  have hmm := ht.int
  have HG : Hid (SlAt eU w a n c ids ∧ SlAt eE w a' n' c' es ∧ (∀ x ∈ ids, x < 18446744073709551616)) := ⟨hs, ht, hl⟩
  have hm2 : n' ≤ 100 := hm
  clear hs ht hn hm hl
  cases hc : chkI ids es
  · rw [err_no hc] at C ⊢
    have HC : Hid (chkI ids es = false) := hc
    clear hc
    go_enter Try.func19, Try.ntmps19
    go_wp2_with fail
    refine Calls.mono C.out ?_
    rintro _ W1 ⟨rfl, b1⟩
    go_wp2
    go_returns
    exact ⟨⟨none, 0, 0, [], rfl, SlAt.none' _, .inl ⟨HC.out, rfl⟩⟩, b1⟩
  · rw [err_ok hc] at C ⊢
    obtain ⟨L, rfl, G⟩ := gok_of hc HG.out.2.2
    have hLl : L.length = n' := by rw [← HG.out.2.1.len, List.length_map]
    have HC : Hid (chkI ids (L.map Ne.eg) = true ∧ Gok ids L ∧ L.length = n') := ⟨hc, G, hLl⟩
    clear hc G hLl
    go_enter Try.func19, Try.ntmps19
    go_wp2_with fail
    refine Calls.mono C.out ?_
    rintro _ W1 ⟨rfl, b1⟩
    have B1 : Hid (Below w.heap.size w W1) := b1
    clear b1
    go_wp2_with fail
    refine (settle_any a n c ids a' n' c' L W1 (HG.out.1.below B1.out) (HG.out.2.1.below B1.out) HC.out.2.1).mono ?_
    rintro _ W2 ⟨⟨g, c2, rfl, hq, _⟩, b2⟩
    obtain ⟨V, sV, rV, bV, _⟩ := row_new rtT W2 #[.slice none 0 0, .slice none 0 0] (tre a n c g c2) rfl rfl (tre_one _ _ _ _ _)
    have K : Hid (TQ V a n c g c2 ids L (rpOf ids L) ∧ RvAt V W2.heap.size 68 (tre a n c g c2) ∧ Below w.heap.size w V) := ⟨hq.below bV, rV, below_over (below_over B1.out b2) bV⟩
    obtain ⟨tb, htb⟩ : ∃ z, W2.heap.size = z := ⟨_, rfl⟩
    rw [htb] at K sV
    clear hq b2 rV bV C
    go_wp2_with fail
    clear sV htb
    go_loopw [8, 22] (fun v8 v22 wr => ∃ e : Nat, e ≤ n' ∧ v22 = .int .i64 e ∧ Own eI wr V.heap.size v8 (treeTo ids L e) ∧ Below V.heap.size V wr) (fun _ v22 _ => n' - (intOf v22).toNat)
    case atStart => exact ⟨0, by omega, rfl, Own.nil _ _, Below.refl _ _⟩
    case round =>
      obtain ⟨e, he, rfl, hO, hB⟩ := hrel
      have he0 : (0 : Int) ≤ (e : Int) := by omega
      by_cases het : e < n'
      · have he1 : (e : Int) < (n' : Int) := by omega
        have hel : e < L.length := by rw [HC.out.2.2]; exact het
        obtain ⟨b, o, rfl⟩ := HG.out.2.1.some' (by omega)
        obtain ⟨x, hx⟩ := lt_nth hel
        have lp := lde' (HG.out.2.1.below (below_over K.out.2.2 hB)) hx
        obtain ⟨V1, sV, vE, bV⟩ := EvAt.put wr x.eg
        have lv := vE.ld
        have lt := ((K.out.2.1.below hB).below bV).ld rtT rfl
        have J : Hid (Own eI V1 V.heap.size u8 (treeTo ids L e) ∧ Below V.heap.size V V1 ∧ L[e]? = some x) := ⟨hO.below bV, below_over hB bV, hx⟩
        clear hO hB vE bV hx hel
        go_wp2_with fail
        refine (carries_any a n c g c2 ids L e x V1 (K.out.1.below J.out.2.1) J.out.2.2).mono ?_
        rintro _ V2 ⟨rfl, b2⟩
        cases hq : carB ids L x
        · have Z : Hid (Own eI V2 V.heap.size u8 (treeTo ids L (e + 1)) ∧ Below V.heap.size V V2) := ⟨by rw [treeTo_no J.out.2.2 hq]; exact J.out.1.below b2, below_over J.out.2.1 b2⟩
          clear b2 hq
          go_wp2
          go_roundw
          case rel => exact ⟨e + 1, by omega, by go_num, Z.out.1, Z.out.2⟩
          case measure => simp [intOf]; omega
        · have bs := bsI_is (e : Int) V2
          obtain ⟨v', Y, ap, o2, b5⟩ := nI (J.out.1.below b2) (Nat.le_trans J.out.2.1.size b2.size) (by have := treeTo_len ids L e; omega) (e : Int)
          have Z : Hid (Own eI Y V.heap.size v' (treeTo ids L (e + 1)) ∧ Below V.heap.size V Y) := ⟨by rw [treeTo_yes J.out.2.2 hq]; exact o2, (below_over J.out.2.1 b2).trans b5⟩
          clear o2 b2 b5 hq
          go_wp2
          go_roundw
          case rel => exact ⟨e + 1, by omega, by go_num, Z.out.1, Z.out.2⟩
          case measure => simp [intOf]; omega
      · have hen : e = n' := by omega
        subst hen
        have he1 : ¬ (e : Int) < (e : Int) := by omega
        rw [show treeTo ids L e = treeF ids L by unfold treeF; rw [HC.out.2.2]] at hO
        obtain ⟨sa, sc, hv, hS, _⟩ := hO.form
        subst hv
        obtain ⟨m, hm⟩ : ∃ m, (treeF ids L).length = m := ⟨_, rfl⟩
        rw [hm] at hS ⊢
        have Z : Hid (SlAt eI wr sa m sc (treeF ids L) ∧ Below w.heap.size w wr) := ⟨hS, below_over K.out.2.2 hB⟩
        clear hO hB hS hm
        go_wp2
        go_returns
        exact ⟨⟨_, _, _, rfl, _, Z.out.1, .inr ⟨L, rfl, HC.out.2.1, HC.out.1, rfl⟩⟩, Z.out.2⟩
end Go.Proofs.Ytcagdfdhpbeolaa
