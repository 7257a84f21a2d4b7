/-
  SpanTurned: the walk, for every input.
-/
import Derived.Test.YtcagdfdhpbeolaaLawS
import Derived.Test.YtcagdfdhpbeolaaPTrn
namespace Go.Proofs.Ytcagdfdhpbeolaa
set_option linter.unusedVariables false
set_option maxRecDepth 8000
set_option linter.unusedSimpArgs false
open Go.RowKit

theorem ldn {W : World} {b o n c i : Nat} {l : List Nd} {x : Nd} (h : SlAt eN W (some ⟨b, o, none⟩) n c l) (hx : l[i]? = some x) : (ldS 60 (.pointer (some ⟨b, o + i * 3, none⟩))).run Try.prog W = .ok (.agg x.cs) W := h.ld kN hx Try.underlying60 rfl rfl
theorem ldx {W : World} {b o n c i : Nat} {l : List En} {x : En} (h : SlAt eX W (some ⟨b, o, none⟩) n c l) (hx : l[i]? = some x) : (ldS 58 (.pointer (some ⟨b, o + i * 7, none⟩))).run Try.prog W = .ok (.agg x.cs) W := h.ld kX hx Try.underlying58 rfl rfl
theorem bdE (ps : Array (Nat × Value)) : Instr.build 50 ps = bdS 50 ps := rfl
theorem bdE_tu (x : Eg) (w : World) : (bdS 50 #[(0, .int .i64 x.b), (1, .int .i64 x.pb), (2, .int .i64 x.a), (3, .int .i64 x.pa), (4, .int .u32 x.cb), (5, .int .u32 x.ca)]).run Try.prog w = .ok (.agg x.turn.cs) w := by kernel_rfl
/-- An edge's variable, written anew. -/
theorem EvAt.put2 {W : World} {b : Nat} {x : Eg} (h : EvAt W b x) (y : Eg) {B : Nat} {U : World} (hU : Below B U W) (hb : B ≤ b) : ∃ V, (stS 50 (.pointer (some ⟨b, 0, none⟩)) (.agg y.cs)).run Try.prog W = .ok () V ∧ EvAt V b y ∧ Below B U V :=
  ⟨_, RvAt.st rtE h rfl rfl (one_of rfl), RvAt.set h, below_setRow hU hb _⟩
attribute [local go_sem ↓] ldE stE apE bsE bdE ldN eqgN neqN ldX eqgX eqlX
set_option maxHeartbeats 16000000 in
theorem SpanTurned_walk (a : Option Addr) (n c : Nat) (ids0 : List Nat) (a' : Option Addr) (n' c' : Nat) (es0 : List Eg) (x : Int) (w : World) (hs : SlAt eU w a n c ids0) (hl : ∀ x ∈ ids0, x < 18446744073709551616) (ht : SlAt eE w a' n' c' es0) (_hx : ∀ u ∈ es0, True) (hx : 0 ≤ x ∧ x ≤ 4294967295) :
    Calls Try.prog 8 #[.slice a n c, .slice a' n' c', .int .u32 x] w fun r w' => r = .returned (.bool true) ∧ Below w.heap.size w w' := by
  have H0 : Hid (SlAt eU w a n c ids0 ∧ SlAt eE w a' n' c' es0 ∧ ∀ x ∈ ids0, x < 18446744073709551616) := ⟨hs, ht, hl⟩
  clear hs ht hl _hx
  go_enter Try.func8, Try.ntmps8
  go_wp2_with fail
  refine (short_any a n c ids0 w H0.out.1).mono ?_
  rintro _ W1 ⟨⟨m, rfl, hm, s1⟩, b1⟩
  have H1 : Hid (SlAt eU W1 a m c (ids0.take 9) ∧ m ≤ 9 ∧ Below w.heap.size w W1) := ⟨s1, hm, b1⟩
  clear s1 hm b1
  go_wp2_with fail
  refine (few_any a' n' c' es0 W1 (H0.out.2.1.below H1.out.2.2)).mono ?_
  rintro _ W2 ⟨⟨m', rfl, hm', s2⟩, b2⟩
  obtain ⟨ids, hids⟩ : ∃ z, ids0.take 9 = z := ⟨_, rfl⟩
  obtain ⟨es, hes⟩ : ∃ z, es0.take 26 = z := ⟨_, rfl⟩
  have GS2 : Hid (GS w W2 a m c a' m' c' ids es) := ⟨by rw [← hids]; exact H1.out.1.below b2, by rw [← hes]; exact s2, by rw [← hids]; exact take_u H0.out.2.2 9, H1.out.2.1, hm', below_over H1.out.2.2 b2⟩
  have hm9 := GS2.out.n9
  have hm26 := GS2.out.m26
  clear s2 hm' b2 H1 H0 hids hes
  have hmb : -9223372036854775808 ≤ (m' : Int) - 1 ∧ (m' : Int) - 1 ≤ 9223372036854775807 := by omega
  go_wp2_with fail
  go_loopw [7, 8] (fun v7 v8 wr => ∃ (k : Nat) (z : Int), k ≤ m' ∧ v8 = .int .i64 z ∧ z = (k : Int) - 1 ∧ (∃ M, Own eE wr W2.heap.size v7 M ∧ Trd M (es.drop k)) ∧ Below W2.heap.size W2 wr) (fun _ v8 _ => (intOf v8 + 1).toNat)
  case atStart => exact ⟨m', _, Nat.le_refl _, rfl, rfl, ⟨[], Own.nil _ _, by have := Trd.nil es; rwa [GS2.out.ed.len] at this⟩, Below.refl _ _⟩
  case round =>
    obtain ⟨k, z, hk, rfl, hz, ⟨M, hO, hT⟩, hB⟩ := hrel
    cases k with
    | zero =>
      obtain rfl : z = -1 := by omega
      have hT' : Trd M es := hT
      obtain ⟨sa, sc, hv, hS, _⟩ := hO.form
      have hMl : M.length = m' := by rw [hT'.len]; exact GS2.out.ed.len
      rw [hMl] at hv hS
      subst hv
      have K : Hid (GS w wr a m c a' m' c' ids es ∧ SlAt eE wr sa m' sc M ∧ Trd M es) := ⟨GS2.out.below hB, hS, hT'⟩
      obtain ⟨E, hE⟩ : ∃ z, errI ids es = z := ⟨_, rfl⟩
      have HE : Hid (errI ids es = E ∧ errI ids M = E) := ⟨hE, by rw [hT'.err, hE]⟩
      clear hO hT hT' hB hS hMl hE GS2 hz
      go_wp2_with fail
      refine (nodes_any a m c ids a' m' c' es wr K.out.1.sl K.out.1.ed K.out.1.u64 (by omega) (by omega)).mono ?_
      rintro _ X1 ⟨⟨a1, n1, c1, A, rfl, hA, oA⟩, b1⟩
      have K1 : Hid (GS w X1 a m c a' m' c' ids es ∧ SlAt eE X1 sa m' sc M ∧ Trd M es ∧ SlAt eN X1 a1 n1 c1 A ∧ nodO ids es A) := ⟨K.out.1.below b1, K.out.2.1.below b1, K.out.2.2, hA, oA⟩
      rw [HE.out.1]
      clear hA oA b1 K
      go_wp2_with fail
      refine (nodes_any a m c ids sa m' sc M X1 K1.out.1.sl K1.out.2.1 K1.out.1.u64 (by omega) (by omega)).mono ?_
      rintro _ X2 ⟨⟨a2, n2, c2, B, rfl, hA, oA⟩, b1⟩
      have eBA := (K1.out.2.2.1.nod K1.out.2.2.2.2 oA).symm
      subst eBA
      have e2 : n1 = n2 := by rw [← hA.len, ← K1.out.2.2.2.1.len]
      subst e2
      have K2 : Hid (GS w X2 a m c a' m' c' ids es ∧ SlAt eE X2 sa m' sc M ∧ Trd M es ∧ SlAt eN X2 a1 n1 c1 A ∧ SlAt eN X2 a2 n1 c2 A) := ⟨K1.out.1.below b1, K1.out.2.1.below b1, K1.out.2.2.1, K1.out.2.2.2.1.below b1, hA⟩
      rw [HE.out.2]
      clear hA oA b1 K1
      go_wp2_with fail
      refine (ends_any a m c ids a' m' c' es X2 K2.out.1.sl K2.out.1.ed K2.out.1.u64 (by omega) (by omega)).mono ?_
      rintro _ X3 ⟨⟨a3, n3, c3, P, rfl, hA, oA⟩, b1⟩
      have K3 : Hid (GS w X3 a m c a' m' c' ids es ∧ SlAt eE X3 sa m' sc M ∧ Trd M es ∧ SlAt eN X3 a1 n1 c1 A ∧ SlAt eN X3 a2 n1 c2 A ∧ SlAt eX X3 a3 n3 c3 P ∧ endO ids es P) := ⟨K2.out.1.below b1, K2.out.2.1.below b1, K2.out.2.2.1, K2.out.2.2.2.1.below b1, K2.out.2.2.2.2.below b1, hA, oA⟩
      rw [HE.out.1]
      clear hA oA b1 K2
      go_wp2_with fail
      refine (ends_any a m c ids sa m' sc M X3 K3.out.1.sl K3.out.2.1 K3.out.1.u64 (by omega) (by omega)).mono ?_
      rintro _ X4 ⟨⟨a4, n4, c4, Q, rfl, hA, oA⟩, b1⟩
      have hPQ := K3.out.2.2.1.ends K3.out.2.2.2.2.2.2 oA
      have e2 : n3 = n4 := by rw [← hA.len, ← K3.out.2.2.2.2.2.1.len, hPQ.1]
      subst e2
      have F : Hid (Below w.heap.size w X4 ∧ SlAt eN X4 a1 n1 c1 A ∧ SlAt eN X4 a2 n1 c2 A ∧ SlAt eX X4 a3 n3 c3 P ∧ SlAt eX X4 a4 n3 c4 Q ∧ ∀ x ∈ P, x ∈ Q) := ⟨below_over K3.out.1.bel b1, K3.out.2.2.2.1.below b1, K3.out.2.2.2.2.1.below b1, K3.out.2.2.2.2.2.1.below b1, hA, hPQ.2⟩
      rw [HE.out.2]
      have hn1 := F.out.2.1.int
      have hn3 := F.out.2.2.2.1.int
      clear hA oA b1 K3 hPQ HE
      go_wp2_with fail
      go_loopw [18] (fun v18 wx => ∃ i : Nat, i ≤ n1 ∧ v18 = .int .i64 i ∧ Below X4.heap.size X4 wx) (fun v18 _ => n1 - (intOf v18).toNat)
      case atStart => exact ⟨0, by omega, rfl, Below.refl _ _⟩
      case round =>
        obtain ⟨i, hi, rfl, hB⟩ := hrel
        have J : Hid (Below X4.heap.size X4 wr) := hB
        have hi0 : (0 : Int) ≤ (i : Int) := by omega
        by_cases hit : i < n1
        · have hi1 : (i : Int) < (n1 : Int) := by omega
          obtain ⟨b, o, rfl⟩ := F.out.2.1.some' (by omega)
          obtain ⟨b2, o2, rfl⟩ := F.out.2.2.1.some' (by omega)
          obtain ⟨y, hy⟩ := lt_nth (l := A) (i := i) (by rw [F.out.2.1.len]; exact hit)
          have l1 := fun q : Later wr => ldn ((F.out.2.1.below hB).below q.below) hy
          have l2 := fun q : Later wr => ldn ((F.out.2.2.1.below hB).below q.below) hy
          have en := eqN_refl y
          clear hB hy
          go_wp2_with fail
          refine wp_region_later (by kernel_rfl) (by kernel_rfl) ?_
          repeat (go_big_quiet_step (first | exact rfl))
          refine wpQuiet_nil ?_
          intro _ hw'
          obtain ⟨q, rfl⟩ := hw'
          go_wp2
          go_roundw
          case rel => exact ⟨i + 1, by omega, by go_num, below_later J.out q⟩
          case measure => simp [intOf]; omega
        · have hin : i = n1 := by omega
          subst hin
          have hi1 : ¬ (i : Int) < (i : Int) := by omega
          clear hB
          go_wp2_with fail
          go_loopw [19] (fun v19 wx => ∃ k : Nat, k ≤ n3 ∧ v19 = .int .i64 k ∧ Below X4.heap.size X4 wx) (fun v19 _ => n3 - (intOf v19).toNat)
          case atStart => exact ⟨0, by omega, rfl, J.out⟩
          case round =>
            obtain ⟨k, hk, rfl, hB⟩ := hrel
            have J2 : Hid (Below X4.heap.size X4 wr) := hB
            have hk0 : (0 : Int) ≤ (k : Int) := by omega
            by_cases hkt : k < n3
            · have hk1 : (k : Int) < (n3 : Int) := by omega
              obtain ⟨b, o, rfl⟩ := F.out.2.2.2.1.some' (by omega)
              obtain ⟨b2, o2, rfl⟩ := F.out.2.2.2.2.1.some' (by omega)
              obtain ⟨y, hy⟩ := lt_nth (l := P) (i := k) (by rw [F.out.2.2.2.1.len]; exact hkt)
              have HY : Hid (P[k]? = some y ∧ ∃ t, t < n3 ∧ Q[t]? = some y) := ⟨hy, by
                obtain ⟨t, ht⟩ := List.getElem?_of_mem (F.out.2.2.2.2.2 y (List.mem_of_getElem? hy))
                have := (List.getElem?_eq_some_iff.1 ht).1
                rw [F.out.2.2.2.2.1.len] at this
                exact ⟨t, this, ht⟩⟩
              clear hB hy
              go_wp2_with fail
              go_loopw [20, 21] (fun v20 v21 wx => ∃ t : Nat, t ≤ n3 ∧ v21 = .int .i64 t ∧ (∃ f : Bool, v20 = .bool f ∧ ∀ j, j < t → Q[j]? = some y → f = true) ∧ Below X4.heap.size X4 wx) (fun _ v21 _ => n3 - (intOf v21).toNat)
              case atStart => exact ⟨0, by omega, rfl, ⟨false, rfl, fun j hj => by omega⟩, J2.out⟩
              case round =>
                obtain ⟨t, ht, rfl, ⟨f, rfl, hf⟩, hB⟩ := hrel
                have J3 : Hid (Below X4.heap.size X4 wr ∧ ∀ j, j < t → Q[j]? = some y → f = true) := ⟨hB, hf⟩
                have ht0 : (0 : Int) ≤ (t : Int) := by omega
                by_cases htt : t < n3
                · have ht1 : (t : Int) < (n3 : Int) := by omega
                  obtain ⟨u, hu⟩ := lt_nth (l := Q) (i := t) (by rw [F.out.2.2.2.2.1.len]; exact htt)
                  have l1 := fun q : Later wr => ldx ((F.out.2.2.2.1.below hB).below q.below) HY.out.1
                  have l2 := fun q : Later wr => ldx ((F.out.2.2.2.2.1.below hB).below q.below) hu
                  have HU : Hid (Q[t]? = some u) := hu
                  clear hB hu hf
                  cases f
                  · cases hq : eqX y u
                    · have NX : Hid (∀ j, j < t + 1 → Q[j]? = some y → false = true) := fun j hj e => by
                        by_cases hjt : j = t
                        · subst hjt
                          rw [HU.out] at e
                          cases e
                          rw [eqX_iff.2 rfl] at hq
                          cases hq
                        · exact J3.out.2 j (by omega) e
                      go_wp2_with fail
                      refine wp_region_later (by kernel_rfl) (by kernel_rfl) ?_
                      repeat (go_big_quiet_step (first | exact rfl))
                      refine wpQuiet_nil ?_
                      intro _ hw'
                      obtain ⟨q, rfl⟩ := hw'
                      go_wp2
                      go_roundw
                      case rel => exact ⟨t + 1, by omega, by go_num, ⟨false, rfl, NX.out⟩, below_later J3.out.1 q⟩
                      case measure => simp [intOf]; omega
                    · skip
                      go_wp2_with fail
                      refine wp_region_later (by kernel_rfl) (by kernel_rfl) ?_
                      repeat (go_big_quiet_step (first | exact rfl))
                      refine wpQuiet_nil ?_
                      intro _ hw'
                      obtain ⟨q, rfl⟩ := hw'
                      go_wp2
                      go_roundw
                      case rel => exact ⟨t + 1, by omega, by go_num, ⟨true, rfl, fun _ _ _ => rfl⟩, below_later J3.out.1 q⟩
                      case measure => simp [intOf]; omega
                  · skip
                    go_wp2_with fail
                    refine wp_region_later (by kernel_rfl) (by kernel_rfl) ?_
                    repeat (go_big_quiet_step (first | exact rfl))
                    refine wpQuiet_nil ?_
                    intro _ hw'
                    obtain ⟨q, rfl⟩ := hw'
                    go_wp2
                    go_roundw
                    case rel => exact ⟨t + 1, by omega, by go_num, ⟨true, rfl, fun _ _ _ => rfl⟩, below_later J3.out.1 q⟩
                    case measure => simp [intOf]; omega
                · have htn : t = n3 := by omega
                  subst htn
                  have ht1 : ¬ (t : Int) < (t : Int) := by omega
                  have hft : f = true := by
                    obtain ⟨j, hj, e⟩ := HY.out.2
                    exact hf j hj e
                  subst hft
                  clear hf hB
                  go_wp2
                  go_roundw
                  case rel => exact ⟨k + 1, by omega, by go_num, J3.out.1⟩
                  case measure => simp [intOf]; omega
            · have hkn : k = n3 := by omega
              subst hkn
              have hk1 : ¬ (k : Int) < (k : Int) := by omega
              clear hB
              go_wp2_with fail
              refine (awake_any wr).mono ?_
              rintro _ Y2 ⟨rfl, b9⟩
              have B9 : Hid (Below w.heap.size w Y2) := below_over F.out.1 (below_over J2.out b9)
              clear b9
              go_wp2
              go_ret
              exact ⟨rfl, B9.out⟩
    | succ k =>
      obtain rfl : z = (k : Int) := by omega
      have hk0 : (0 : Int) ≤ (k : Int) := by omega
      have hk1 : (k : Int) < (m' : Int) := by omega
      have hkb : -9223372036854775808 ≤ (k : Int) - 1 ∧ (k : Int) - 1 ≤ 9223372036854775807 := by omega
      obtain ⟨b, o, rfl⟩ := GS2.out.ed.some' (by omega)
      obtain ⟨y, hy⟩ := lt_nth (l := es) (i := k) (by rw [GS2.out.ed.len]; omega)
      have lp := lde (GS2.out.ed.below hB) hy
      obtain ⟨V, sV, eV, bV⟩ := EvAt.put wr y
      have hlen : M.length ≤ 1000 := by rw [hT.len, List.length_drop, GS2.out.ed.len]; omega
      cases hq : (bits BinOp.and IntKind.u32 (x / 2 ^ k) 1 == 1)
      · have lv := eV.ld
        have bs := bsE_is y V
        obtain ⟨v', Y, ap, o2, b2⟩ := nE (hO.below bV) (Nat.le_trans hB.size bV.size) hlen y
        have Z : Hid (Own eE Y W2.heap.size v' (M ++ [y]) ∧ Trd (M ++ [y]) (es.drop k) ∧ Below W2.heap.size W2 Y) := ⟨o2, hT.next hy (.inl rfl), (below_over hB bV).trans b2⟩
        clear hO hT hB eV bV hy hz o2 b2 hlen
        go_wp2
        go_roundw
        case rel => exact ⟨k, _, by omega, by go_num, rfl, ⟨_, Z.out.1, Z.out.2.1⟩, Z.out.2.2⟩
        case measure => simp [intOf]
      · have c0 := eV.c0
        have c1 := eV.c1
        have c2 := eV.c2
        have c3 := eV.c3
        have c4 := eV.c4
        have c5 := eV.c5
        have bd := bdE_tu y V
        obtain ⟨V2, sV2, eV2, bV2⟩ := eV.put2 y.turn bV (Nat.le_refl _)
        have lv := eV2.ld
        have bs := bsE_is y.turn V2
        obtain ⟨v', Y, ap, o2, b2⟩ := nE (hO.below bV2) (Nat.le_trans hB.size bV2.size) hlen y.turn
        have Z : Hid (Own eE Y W2.heap.size v' (M ++ [y.turn]) ∧ Trd (M ++ [y.turn]) (es.drop k) ∧ Below W2.heap.size W2 Y) := ⟨o2, hT.next hy (.inr rfl), (below_over hB bV2).trans b2⟩
        clear hO hT hB eV bV hy hz o2 b2 hlen eV2 bV2
        go_wp2
        go_roundw
        case rel => exact ⟨k, _, by omega, by go_num, rfl, ⟨_, Z.out.1, Z.out.2.1⟩, Z.out.2.2⟩
        case measure => simp [intOf]
end Go.Proofs.Ytcagdfdhpbeolaa
