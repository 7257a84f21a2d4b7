/-
  SpanTree: the walk, for every input.
-/
import Derived.Test.YtcagdfdhpbeolaaLNodes
import Derived.Test.YtcagdfdhpbeolaaJnd
import Derived.Test.YtcagdfdhpbeolaaPTre
namespace Go.Proofs.Ytcagdfdhpbeolaa
set_option linter.unusedVariables false
set_option maxRecDepth 8000
set_option linter.unusedSimpArgs false
open Go.RowKit

/-- The edges of the first i places of those that carry. -/
def carTo (ids : List Nat) (L : List Ne) (i : Nat) : List Ne := ((carP ids L L.length).take i).filterMap fun p => L[p]?
theorem carTo_next {ids : List Nat} {L : List Ne} {i p : Nat} {x : Ne} (h : (carP ids L L.length)[i]? = some p) (hx : L[p]? = some x) : carTo ids L (i + 1) = carTo ids L i ++ [x] := by
  unfold carTo
  rw [List.take_add_one, h, List.filterMap_append]
  simp [hx]
theorem carTo_len (ids : List Nat) (L : List Ne) (i : Nat) : (carTo ids L i).length ≤ i := by
  unfold carTo
  exact Nat.le_trans (List.length_filterMap_le _ _) (by rw [List.length_take]; omega)
theorem carTo_full {ids : List Nat} {L : List Ne} {i : Nat} (h : i ≤ (carP ids L L.length).length) : (carTo ids L i).length = i := by
  induction i with
  | zero => rfl
  | succ i ih =>
    obtain ⟨p, hp⟩ := lt_nth (l := carP ids L L.length) (i := i) (by omega)
    obtain ⟨_, x, hx, _⟩ := carP_mem.1 (List.mem_of_getElem? hp)
    rw [carTo_next hp hx, List.length_append, ih (by omega)]
    rfl
theorem carTo_all {ids : List Nat} {L : List Ne} {i : Nat} (h : (carP ids L L.length).length ≤ i) : carTo ids L i = carL ids L := by
  unfold carTo carL
  rw [List.take_of_length_le h]
theorem treeF_at {ids : List Nat} {L : List Ne} {i p : Nat} (h : (carP ids L L.length)[i]? = some p) : (treeF ids L)[i]? = some (p : Int) := by
  show (treeTo ids L L.length)[i]? = _
  rw [treeTo_car, List.getElem?_map, h]
  rfl
theorem treeF_len (ids : List Nat) (L : List Ne) : (treeF ids L).length = (carP ids L L.length).length := by
  show (treeTo ids L L.length).length = _
  rw [treeTo_car, List.length_map]
theorem carP_lt {ids : List Nat} {L : List Ne} {i j p q : Nat} (hi : (carP ids L L.length)[i]? = some p) (hj : (carP ids L L.length)[j]? = some q) (h : i < j) : p < q := by
  have hr := carP_rises ids L L.length
  rw [List.pairwise_iff_getElem] at hr
  obtain ⟨h1, e1⟩ := List.getElem?_eq_some_iff.1 hi
  obtain ⟨h2, e2⟩ := List.getElem?_eq_some_iff.1 hj
  have := hr i j h1 h2 h
  omega
/-- How many of the first i are the least of their parts. -/
def cntJ (n : Nat) (L : List Ne) (i : Nat) : Nat := ((List.range i).filter fun k => decide (ptJ n L k = k)).length
theorem cntJ_yes {n : Nat} {L : List Ne} {i : Nat} (h : ptJ n L i = i) : cntJ n L (i + 1) = cntJ n L i + 1 := by
  unfold cntJ
  rw [List.range_succ, List.filter_append, List.length_append]
  simp [h]
theorem cntJ_no {n : Nat} {L : List Ne} {i : Nat} (h : ptJ n L i ≠ i) : cntJ n L (i + 1) = cntJ n L i := by
  unfold cntJ
  rw [List.range_succ, List.filter_append, List.length_append]
  simp [h]
theorem cntJ_le (n : Nat) (L : List Ne) (i : Nat) : cntJ n L i ≤ i := by
  unfold cntJ
  exact Nat.le_trans (List.length_filter_le _ _) (by rw [List.length_range]; exact Nat.le_refl _)
attribute [local go_sem ↓] ldE stE apE bsE
set_option maxHeartbeats 16000000 in
theorem SpanTree_walk (a : Option Addr) (n c : Nat) (ids0 : List Nat) (a' : Option Addr) (n' c' : Nat) (es0 : List Eg) (w : World) (hs : SlAt eU w a n c ids0) (hl : ∀ x ∈ ids0, x < 18446744073709551616) (ht : SlAt eE w a' n' c' es0) (_hx : ∀ u ∈ es0, True) :
    Calls Try.prog 5 #[.slice a n c, .slice a' n' c'] w fun r w' => r = .returned (.bool true) ∧ Below w.heap.size w w' := by
  have H0 : Hid (SlAt eU w a n c ids0 ∧ SlAt eE w a' n' c' es0 ∧ ∀ x ∈ ids0, x < 18446744073709551616) := ⟨hs, ht, hl⟩
  clear hs ht hl _hx
  go_enter Try.func5, Try.ntmps5
  go_wp2_with fail
  refine (short_any a n c ids0 w H0.out.1).mono ?_
  rintro _ W1 ⟨⟨m, rfl, hm, s1⟩, b1⟩
  have H1 : Hid (SlAt eU W1 a m c (ids0.take 9) ∧ m ≤ 9 ∧ Below w.heap.size w W1) := ⟨s1, hm, b1⟩
  clear s1 hm b1
  go_wp2_with fail
  refine (few_any a' n' c' es0 W1 (H0.out.2.1.below H1.out.2.2)).mono ?_
  rintro _ W2 ⟨⟨m', rfl, hm', s2⟩, b2⟩
  obtain ⟨ids, hids⟩ : ∃ z, ids0.take 9 = z := ⟨_, rfl⟩
  obtain ⟨es, hes⟩ : ∃ z, es0.take 26 = z := ⟨_, rfl⟩
  have GS2 : Hid (GS w W2 a m c a' m' c' ids es) := ⟨by rw [← hids]; exact H1.out.1.below b2, by rw [← hes]; exact s2, by rw [← hids]; exact take_u H0.out.2.2 9, H1.out.2.1, hm', below_over H1.out.2.2 b2⟩
  have hm9 := GS2.out.n9
  have hm26 := GS2.out.m26
  clear s2 hm' b2 H1 H0 hids hes
  go_wp2_with fail
  cases hc : chkI ids es
  · have hE := err_no hc
    refine (tree_any a m c ids a' m' c' es W2 GS2.out.sl GS2.out.ed GS2.out.u64 (by omega) (by omega)).mono ?_
    rintro _ W3 ⟨⟨a3, n3, c3, M, rfl, hN, hO⟩, b⟩
    have hM0 : n3 = 0 := by
      rcases hO with ⟨_, h0⟩ | ⟨L, _, _, h1, _⟩
      · rw [← hN.len, h0]; rfl
      · rw [hc] at h1; cases h1
    subst hM0
    have G3 : Hid (GS w W3 a m c a' m' c' ids es) := GS2.out.below b
    rw [hE]
    clear hN hO b GS2 hc
    go_wp2_with fail
    refine (rcheck_any a m c ids a' m' c' es W3 G3.out.sl G3.out.ed G3.out.u64 (by omega) (by omega)).mono ?_
    rintro _ W5 ⟨rfl, b5⟩
    rw [hE]
    have B5 : Hid (Below w.heap.size w W5) := below_over G3.out.bel b5
    clear b5 G3 hE
    go_wp2_with fail
    refine (awake_any W5).mono ?_
    rintro _ W6 ⟨rfl, b6⟩
    have B6 : Hid (Below w.heap.size w W6) := below_over B5.out b6
    clear b6
    go_wp2
    go_ret
    exact ⟨rfl, B6.out⟩
  · have hE := err_ok hc
    obtain ⟨L, rfl, G⟩ := gok_of hc GS2.out.u64
    have HC : Hid (chkI ids (L.map Ne.eg) = true ∧ Gok ids L) := ⟨hc, G⟩
    clear hc G
    refine (tree_any a m c ids a' m' c' (L.map Ne.eg) W2 GS2.out.sl GS2.out.ed GS2.out.u64 (by omega) (by omega)).mono ?_
    rintro _ W3 ⟨⟨a3, n3, c3, M, rfl, hN, hO⟩, b⟩
    have hMF := treO_is hO HC.out.1
    subst hMF
    have hid : ids.length = m := GS2.out.sl.len
    have hn3 : (carP ids L L.length).length = n3 := by rw [← hN.len, treeF_len]
    have hLl : L.length = m' := by rw [← GS2.out.ed.len, List.length_map]
    have G3 : Hid (GS w W3 a m c a' m' c' ids (L.map Ne.eg) ∧ SlAt eI W3 a3 n3 c3 (treeF ids L) ∧ ids.length = m ∧ (carP ids L L.length).length = n3 ∧ L.length = m') := ⟨GS2.out.below b, hN, hid, hn3, hLl⟩
    have hn3i := hN.int
    rw [hE]
    clear hN hO b GS2 hid hn3 hLl
    go_wp2_with fail
    refine (rcheck_any a m c ids a' m' c' (L.map Ne.eg) W3 G3.out.1.sl G3.out.1.ed G3.out.1.u64 (by omega) (by omega)).mono ?_
    rintro _ W ⟨rfl, b5⟩
    rw [hE]
    have K : Hid (GS w W a m c a' m' c' ids (L.map Ne.eg) ∧ SlAt eI W a3 n3 c3 (treeF ids L) ∧ ids.length = m ∧ (carP ids L L.length).length = n3 ∧ L.length = m') := ⟨G3.out.1.below b5, G3.out.2.1.below b5, G3.out.2.2⟩
    have hn24 : n3 ≤ 100 := by
      have h1 := HC.out.2.m24
      have h2 : (carP ids L L.length).length ≤ L.length := by unfold carP; exact Nat.le_trans (List.length_filter_le _ _) (by rw [List.length_range]; exact Nat.le_refl _)
      rw [K.out.2.2.2.1] at h2
      omega
    clear b5 G3 hE
    go_wp2_with fail
    go_loopw [7, 8] (fun v7 v8 wr => ∃ i : Nat, i ≤ n3 ∧ v8 = .int .i64 i ∧ Own eE wr W.heap.size v7 ((carTo ids L i).map Ne.eg) ∧ Below W.heap.size W wr) (fun _ v8 _ => n3 - (intOf v8).toNat)
    case atStart => exact ⟨0, by omega, rfl, Own.nil _ _, Below.refl _ _⟩
    case round =>
      obtain ⟨i, hi, rfl, hO, hB⟩ := hrel
      have hi0 : (0 : Int) ≤ (i : Int) := by omega
      by_cases hit : i < n3
      · have hi1 : (i : Int) < (n3 : Int) := by omega
        obtain ⟨p, hp⟩ := lt_nth (l := carP ids L L.length) (i := i) (by rw [K.out.2.2.2.1]; exact hit)
        obtain ⟨hpl, x, hx, _⟩ := carP_mem.1 (List.mem_of_getElem? hp)
        rw [K.out.2.2.2.2] at hpl
        obtain ⟨b, o, rfl⟩ := K.out.2.1.some' (by omega)
        obtain ⟨b2, o2, rfl⟩ := K.out.1.ed.some' (by omega)
        have hSI := K.out.2.1.below hB
        have tp := fun q : Later wr => cI0 (hSI.below q.below) (treeF_at hp)
        have le := fun q : Later wr => lde' ((K.out.1.ed.below hB).below q.below) hx
        have hp0 : (0 : Int) ≤ (p : Int) := by omega
        have hp1 : (p : Int) < (m' : Int) := by omega
        obtain ⟨P, hP⟩ : ∃ z : Int, (p : Int) = z := ⟨_, rfl⟩
        have hPn : ¬ P < 0 := by omega
        have hPd : decide (P < 0) = false := decide_eq_false hPn
        have hPg : ¬ (m' : Int) ≤ P := by omega
        have hPgd : decide ((m' : Int) ≤ P) = false := decide_eq_false hPg
        have tP : ∀ q : Later wr, q.val.cell? ⟨b, o + i, none⟩ = some (.int .i64 P) := fun q => by rw [← hP]; exact tp q
        have TP : Hid (∀ q : Later wr, q.val.cell? ⟨b, o + i, none⟩ = some (.int .i64 (p : Int))) := tp
        clear tp
        have D : Hid (Own eE wr W.heap.size u7 ((carTo ids L i).map Ne.eg) ∧ Below W.heap.size W wr ∧ (carP ids L L.length)[i]? = some p ∧ L[p]? = some x ∧ (p : Int) = P) := ⟨hO, hB, hp, hx, hP⟩
        have hcl : Hid (((carTo ids L i).map Ne.eg).length ≤ 1000) := by have := carTo_len ids L i; show _ ≤ _; rw [List.length_map]; omega
        by_cases hz : i = 0
        · have hg : ¬ (0 : Int) < (i : Int) := by omega
          have hgd : decide ((0 : Int) < (i : Int)) = false := decide_eq_false hg
          have hgd2 : decide (0 < i) = false := decide_eq_false (by omega)
          clear hO hB hp hx hpl hSI hP hz
          go_wp2_with fail
          refine wp_region_later (by kernel_rfl) (by kernel_rfl) ?_
          repeat (go_big_quiet_step (first | exact rfl))
          refine wpQuiet_nil ?_
          intro _ hw'
          obtain ⟨q, rfl⟩ := hw'
          have c1 := TP.out q
          have c2 := le q
          have bs := bsE_is x.eg q.val
          obtain ⟨v', Y, ap, o5, b5⟩ := nE (D.out.1.below q.below) (Nat.le_trans D.out.2.1.size q.below.size) hcl.out x.eg
          have Z : Hid (Own eE Y W.heap.size v' ((carTo ids L (i + 1)).map Ne.eg) ∧ Below W.heap.size W Y) := ⟨by rw [carTo_next D.out.2.2.1 D.out.2.2.2.1, List.map_append]; exact o5, (below_later D.out.2.1 q).trans b5⟩
          clear tP le o5 b5 hPn hPd hPg hPgd
          go_wp2
          go_roundw
          case rel => exact ⟨i + 1, by omega, by go_num, Z.out.1, Z.out.2⟩
          case measure => simp [intOf]; omega
        · have hg : (0 : Int) < (i : Int) := by omega
          have hg2 : 0 < i := by omega
          obtain ⟨j, hj⟩ : ∃ j : Nat, (i : Int) - 1 = (j : Int) := ⟨i - 1, by omega⟩
          have hj2 : i = j + 1 := by omega
          have hjb : -9223372036854775808 ≤ (i : Int) - 1 ∧ (i : Int) - 1 ≤ 9223372036854775807 := by omega
          have hj0 : (0 : Int) ≤ (j : Int) := by omega
          have hj1 : (j : Int) < (n3 : Int) := by omega
          obtain ⟨r, hr⟩ := lt_nth (l := carP ids L L.length) (i := j) (by rw [K.out.2.2.2.1]; omega)
          have hrp := carP_lt hr hp (by omega)
          have tr0 := fun q : Later wr => cI0 (hSI.below q.below) (treeF_at hr)
          obtain ⟨R, hR⟩ : ∃ z : Int, (r : Int) = z := ⟨_, rfl⟩
          have tR : ∀ q : Later wr, q.val.cell? ⟨b, o + j, none⟩ = some (.int .i64 R) := fun q => by rw [← hR]; exact tr0 q
          have hle : ¬ P ≤ R := by omega
          have hled : decide (P ≤ R) = false := decide_eq_false hle
          clear hO hB hp hx hpl hSI hP hz hr hrp tr0 hR hj2
          go_wp2_with fail
          refine wp_region_later (by kernel_rfl) (by kernel_rfl) ?_
          repeat (go_big_quiet_step (first | exact rfl))
          refine wpQuiet_nil ?_
          intro _ hw'
          obtain ⟨q, rfl⟩ := hw'
          have c1 := TP.out q
          have c2 := le q
          have bs := bsE_is x.eg q.val
          obtain ⟨v', Y, ap, o5, b5⟩ := nE (D.out.1.below q.below) (Nat.le_trans D.out.2.1.size q.below.size) hcl.out x.eg
          have Z : Hid (Own eE Y W.heap.size v' ((carTo ids L (i + 1)).map Ne.eg) ∧ Below W.heap.size W Y) := ⟨by rw [carTo_next D.out.2.2.1 D.out.2.2.2.1, List.map_append]; exact o5, (below_later D.out.2.1 q).trans b5⟩
          clear tP tR hle hled le o5 b5 hPn hPd hPg hPgd
          go_wp2
          go_roundw
          case rel => exact ⟨i + 1, by omega, by go_num, Z.out.1, Z.out.2⟩
          case measure => simp [intOf]; omega
      · have hin : i = n3 := by omega
        subst hin
        have hi1 : ¬ (i : Int) < (i : Int) := by omega
        rw [carTo_all (by rw [K.out.2.2.2.1]; exact Nat.le_refl _)] at hO
        obtain ⟨sa, sc, hv, hS, _⟩ := hO.form
        have hlen : ((carL ids L).map Ne.eg).length = i := by rw [List.length_map, ← carTo_all (i := i) (by rw [K.out.2.2.2.1]; exact Nat.le_refl _), carTo_full (by rw [K.out.2.2.2.1]; exact Nat.le_refl _)]
        rw [hlen] at hv hS
        subst hv
        have J : Hid (SlAt eE wr sa i sc ((carL ids L).map Ne.eg) ∧ GS w wr a m c a' m' c' ids (L.map Ne.eg)) := ⟨hS, K.out.1.below hB⟩
        clear hO hB hS hlen
        go_wp2_with fail
        refine (joined_any m a' m' c' L wr J.out.2.ed (by omega) (fun s hs => by have := HC.out.2.side s hs; rw [K.out.2.2.1] at this; exact ⟨this.1, this.2.1, this.2.2.2.2.2.2⟩)).mono ?_
        rintro _ X1 ⟨⟨g1, cg1, rfl, hg1, hP1⟩, b6⟩
        have J1 : Hid (SlAt eE X1 sa i sc ((carL ids L).map Ne.eg) ∧ GS w X1 a m c a' m' c' ids (L.map Ne.eg) ∧ PAt eI X1 g1 cg1 (jl m (ptJ m L))) := ⟨J.out.1.below b6, J.out.2.below b6, hP1⟩
        clear hP1 hg1 b6 J
        go_wp2_with fail
        refine (joined_any m sa i sc (carL ids L) X1 J1.out.1 (by omega) (fun s hs => by have := HC.out.2.side s (carS_mem.1 hs).1; rw [K.out.2.2.1] at this; exact ⟨this.1, this.2.1, this.2.2.2.2.2.2⟩)).mono ?_
        rintro _ X ⟨⟨g2, cg2, rfl, hg2, hP2⟩, b7⟩
        have hjo : jl m (ptJ m (carL ids L)) = jl m (ptJ m L) := jl_congr (fun k hk => by have := car_joins HC.out.2 (i := k) (by rw [K.out.2.2.1]; exact hk); rwa [K.out.2.2.1] at this)
        rw [hjo] at hP2
        have J2 : Hid (PAt eI X g1 cg1 (jl m (ptJ m L)) ∧ PAt eI X g2 cg2 (jl m (ptJ m L)) ∧ Below w.heap.size w X) := ⟨J1.out.2.2.below b7, hP2, below_over J1.out.2.1.bel b7⟩
        have hmi : (m : Int) ≤ 9223372036854775807 := by omega
        clear hP2 hg2 b7 J1 hjo
        go_wp2_with fail
        go_loopw [11, 12] (fun v11 v12 wx => ∃ k : Nat, k ≤ m ∧ v12 = .int .i64 k ∧ (∃ z : Nat, v11 = .int .i64 (z : Int) ∧ z = cntJ m L k) ∧ Below X.heap.size X wx) (fun _ v12 _ => m - (intOf v12).toNat)
        case atStart => exact ⟨0, by omega, rfl, ⟨0, rfl, rfl⟩, Below.refl _ _⟩
        case round =>
          obtain ⟨k, hk, rfl, ⟨z, rfl, hz⟩, hB⟩ := hrel
          have hk0 : (0 : Int) ≤ (k : Int) := by omega
          have HZ : Hid (z = cntJ m L k) := hz
          have J3 : Hid (Below X.heap.size X wr) := hB
          have hzk : z ≤ k := by rw [hz]; exact cntJ_le m L k
          clear hz
          by_cases hkt : k < m
          · have hk1 : (k : Int) < (m : Int) := by omega
            have hzb : -9223372036854775808 ≤ (z : Int) + 1 ∧ (z : Int) + 1 ≤ 9223372036854775807 := by omega
            have pk : wr.cell? ⟨g1, k, none⟩ = some (.int .i64 (ptJ m L k : Int)) := (J2.out.1.below hB).cell kI (j := 0) (jl_at _ hkt) rfl (by show k = k * 1 + 0; omega)
            obtain ⟨A, hA⟩ : ∃ A, ptJ m L k = A := ⟨_, rfl⟩
            rw [hA] at pk
            have HA : Hid (ptJ m L k = A) := hA
            clear hB hA
            cases hq : ((A : Int) == (k : Int))
            · have Z : Hid (z = cntJ m L (k + 1)) := by show _ = _; rw [cntJ_no (by rw [HA.out]; have := beq_eq_false_iff_ne.1 hq; omega)]; exact HZ.out
              go_wp2
              go_roundw
              case rel => exact ⟨k + 1, by omega, by go_num, ⟨z, rfl, Z.out⟩, J3.out⟩
              case measure => simp [intOf]; omega
            · have Z : Hid (z + 1 = cntJ m L (k + 1)) := by show _ = _; rw [cntJ_yes (by rw [HA.out]; have := beq_iff_eq.1 hq; omega), ← HZ.out]
              go_wp2
              go_roundw
              case rel => exact ⟨k + 1, by omega, by go_num, ⟨z + 1, by go_num, Z.out⟩, J3.out⟩
              case measure => simp [intOf]; omega
          · have hkn : k = m := by omega
            subst hkn
            have hk1 : ¬ (k : Int) < (k : Int) := by omega
            have hsum : i + z = k := by
              have h1 := tree_len HC.out.2
              rw [K.out.2.2.2.1, K.out.2.2.1] at h1
              have h2 : (prts k L).length = cntJ k L k := rfl
              rw [h2, ← HZ.out] at h1
              exact h1
            have hsumI : (i : Int) + (z : Int) = (k : Int) := by omega
            have hsb : -9223372036854775808 ≤ (i : Int) + (z : Int) ∧ (i : Int) + (z : Int) ≤ 9223372036854775807 := by omega
            have s1 := (J2.out.1.below hB).sl kI
            have s2 := (J2.out.2.1.below hB).sl kI
            rw [jl_len] at s1 s2
            have J4 : Hid (SlAt eI wr (some ⟨g1, 0, none⟩) k cg1 (jl k (ptJ k L)) ∧ SlAt eI wr (some ⟨g2, 0, none⟩) k cg2 (jl k (ptJ k L)) ∧ Below w.heap.size w wr) := ⟨s1, s2, below_over J2.out.2.2 hB⟩
            clear hB s1 s2 hsum
            go_wp2_with fail
            refine (sameInts_any (some ⟨g1, 0, none⟩) k cg1 (some ⟨g2, 0, none⟩) cg2 _ wr J4.out.1 J4.out.2.1).mono ?_
            rintro _ Y1 ⟨rfl, b8⟩
            have B8 : Hid (Below w.heap.size w Y1) := below_over J4.out.2.2 b8
            clear b8
            go_wp2_with fail
            refine (awake_any Y1).mono ?_
            rintro _ Y2 ⟨rfl, b9⟩
            have B9 : Hid (Below w.heap.size w Y2) := below_over B8.out b9
            clear b9
            go_wp2
            go_ret
            exact ⟨rfl, B9.out⟩
end Go.Proofs.Ytcagdfdhpbeolaa
