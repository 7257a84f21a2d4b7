/-
  What is the same: walks of Same of the code and of the definition, each for every input.
-/
import Derived.Test.YtmfjlhcobhilcabEql
namespace Go.Proofs.Ytmfjlhcobhilcab
set_option linter.unusedVariables false
set_option maxRecDepth 4000
set_option linter.unusedSimpArgs false
open Go.RowKit
attribute [local go_sem ↓] ldM stM ldC stC ldB stB ldP stP apI bsI
attribute [local go_sem] bsI_is bsI2_is

attribute [local go_sem ↓] eqgM eqgC neqM neqC eqlM eqlC ldO
theorem eqM_no {a b : Mp} (h : ¬ a = b) : eqM a b = false := by
  cases hh : eqM a b with
  | false => rfl
  | true => exact absurd (eqM_iff.1 hh) h
theorem eqC_no {a b : Cr} (h : ¬ a = b) : eqC a b = false := by
  cases hh : eqC a b with
  | false => rfl
  | true => exact absurd (eqC_iff.1 hh) h
set_option maxHeartbeats 2000000 in
theorem rints_any (a : Option Addr) (n c : Nat) (l : List Int) (a' : Option Addr) (n' c' : Nat) (m : List Int) (w : World) (hs : SlAt eI w a n c l) (ht : SlAt eI w a' n' c' m) :
    Calls Try.prog 34 #[.slice a n c, .slice a' n' c'] w fun r w' => TellB r (l = m) ∧ Below w.heap.size w w' := by
  have hnn := hs.int
  have hn2 := ht.int
  by_cases hl : n = n'
  · subst hl
    have H : Hid (SlAt eI w a n c l ∧ SlAt eI w a' n c' m ∧ l.length = n ∧ m.length = n) := ⟨hs, ht, hs.len, ht.len⟩
    clear hs ht hn2
    go_enter Try.func34, Try.ntmps34
    go_wp2_with fail
    go_loopw [5] (fun v wr => ∃ i : Nat, i ≤ n ∧ v = .int .i64 i ∧ l.take i = m.take i ∧ Below w.heap.size w wr) (fun v _ => n - (intOf v).toNat)
    case atStart => exact ⟨0, by omega, rfl, rfl, Below.refl _ _⟩
    case round =>
      obtain ⟨i, hi, rfl, hf, hB⟩ := hrel
      have J : Hid (l.take i = m.take i ∧ Below w.heap.size w wr) := ⟨hf, hB⟩
      have hi0 : (0 : Int) ≤ (i : Int) := by omega
      by_cases hit : i < n
      · have hi1 : (i : Int) < (n : Int) := by omega
        obtain ⟨b, o, rfl⟩ := H.out.1.some' (by omega)
        obtain ⟨b', o', rfl⟩ := H.out.2.1.some' (by omega)
        obtain ⟨x, hx⟩ := lt_nth (l := l) (i := i) (by rw [H.out.2.2.1]; exact hit)
        obtain ⟨y, hy⟩ := lt_nth (l := m) (i := i) (by rw [H.out.2.2.2]; exact hit)
        have l0 := fun q : Later wr => lI ((H.out.1.below J.out.2).below q.below) hx
        have l1 := fun q : Later wr => lI ((H.out.2.1.below J.out.2).below q.below) hy
        have HX : Hid (l[i]? = some x ∧ m[i]? = some y) := ⟨hx, hy⟩
        clear hf hB hx hy
        by_cases e0 : x = y
        · have e1 : (x != y) = false := by simp [e0]
          have E : Hid (l.take (i + 1) = m.take (i + 1)) := take_next J.out.1 HX.out.1 HX.out.2 e0
          clear e0
          go_wp2_with fail
          refine wp_region_later (by kernel_rfl) (by kernel_rfl) ?_
          repeat (go_big_quiet_step (first | exact rfl))
          refine wpQuiet_nil ?_
          intro _ hw'
          obtain ⟨q, rfl⟩ := hw'
          clear l0 l1
          go_wp2
          go_roundw
          case rel => exact ⟨i + 1, by omega, by go_num, E.out, below_later J.out.2 q⟩
          case measure => simp [intOf]; omega
        · have e1 : (x != y) = true := by simp [e0]
          have E : Hid (¬ l = m) := ne_at HX.out.1 HX.out.2 e0
          clear e0
          go_wp2_with fail
          refine wp_region_later (by kernel_rfl) (by kernel_rfl) ?_
          repeat (go_big_quiet_step (first | exact rfl))
          refine wpQuiet_nil ?_
          intro _ hw'
          obtain ⟨q, rfl⟩ := hw'
          clear l0 l1
          go_wp2
          go_ret
          exact ⟨TellB.no E.out, below_later J.out.2 q⟩
      · have hin : i = n := by omega
        subst hin
        have hi1 : ¬ (i : Int) < (i : Int) := by omega
        have E : Hid (l = m) := eq_end J.out.1 H.out.2.2.1 H.out.2.2.2
        clear hf hB
        go_wp2
        go_ret
        exact ⟨TellB.yes E.out, J.out.2⟩
  · have e1 : ((n : Int) != (n' : Int)) = true := by simp; omega
    have E : Hid (¬ l = m) := fun h => hl (by rw [← hs.len, ← ht.len, h])
    clear hl hs ht
    go_enter Try.func34, Try.ntmps34
    go_wp2
    go_ret
    exact ⟨TellB.no E.out, Below.refl _ _⟩
theorem gdO : Try.prog.eqGuardType Try.prog.depth 23 = false := by kernel_rfl
theorem eqgO (op : BinOp) (x y : Operand) (a b : O6) (w : World) : (eqGuard op 23 x y (.agg a.cs) (.agg b.cs)).run Try.prog w = .ok () w := run_eqGuard_agg w op _ x y _ _ gdO
theorem neqO (a b : O6) (w : World) : (binOp .neq 23 (.agg a.cs) (.agg b.cs)).run Try.prog w = .ok (.bool (!(eqO a b))) w := by
  rw [run_neq_struct, eqlO0]
  rfl
theorem eqlO (a b : O6) (w : World) : (binOp .eql 23 (.agg a.cs) (.agg b.cs)).run Try.prog w = .ok (.bool (eqO a b)) w := by
  rw [run_eql_struct, eqlO0]
  rfl
attribute [local go_sem ↓] eqgO neqO eqlO
set_option maxHeartbeats 4000000 in
theorem rrows_any (x y : Pr) (p q : Pv) (w : World) (h : IsPv w x p) (k : IsPv w y q) :
    Calls Try.prog 33 #[.agg x.cs, .agg y.cs] w fun r w' => TellB r (p.ms = q.ms ∧ p.cs = q.cs) ∧ Below w.heap.size w w' := by
  obtain ⟨ka, kn, kc, kv, ks⟩ := h.k
  obtain ⟨ka', kn', kc', kv', ks'⟩ := k.k
  obtain ⟨ma, mn, mc, mv, ms⟩ := h.m
  obtain ⟨ma', mn', mc', mv', ms'⟩ := k.m
  obtain ⟨ca, cn, cc, cv, cs⟩ := h.c
  obtain ⟨ca', cn', cc', cv', cs'⟩ := k.c
  obtain ⟨rr, ⟨ba, bn, bc, bv, bs⟩, bm⟩ := h.b
  obtain ⟨rr', ⟨ba', bn', bc', bv', bs'⟩, bm'⟩ := k.b
  obtain ⟨W, hW, m0, bW, zW⟩ := PrAt.new w x
  obtain ⟨V0, hV, m1, bV, zV⟩ := PrAt.new W y
  have ho : x.o = p.o := h.o
  have ho' : y.o = q.o := k.o
  have M0 : Hid (Below w.heap.size w V0 ∧ PrAt V0 w.heap.size x ∧ PrAt V0 W.heap.size y) := ⟨below_over bW bV, m0.below bV, m1⟩
  have i0 := ks.int
  have i1 := ks'.int
  have i2 := ms.int
  have i3 := ms'.int
  have i4 := cs.int
  have i5 := cs'.int
  have i6 := bs.int
  have i7 := bs'.int
  have HP : Hid (IsPv w x p ∧ IsPv w y q) := ⟨h, k⟩
  have H : Hid (SlAt eK w ka kn kc p.ks ∧ SlAt eK w ka' kn' kc' q.ks ∧ SlAt eM w ma mn mc p.ms ∧ SlAt eM w ma' mn' mc' q.ms ∧ SlAt eC w ca cn cc p.cs ∧ SlAt eC w ca' cn' cc' q.cs ∧ SlAt eB w ba bn bc rr ∧ SlAt eB w ba' bn' bc' rr' ∧ Mem w rr p.bs ∧ Mem w rr' q.bs) := ⟨ks, ks', ms, ms', cs, cs', bs, bs', bm, bm'⟩
  have HV : Hid (x.k = .slice ka kn kc ∧ y.k = .slice ka' kn' kc' ∧ x.m = .slice ma mn mc ∧ y.m = .slice ma' mn' mc' ∧ x.c = .slice ca cn cc ∧ y.c = .slice ca' cn' cc' ∧ x.b = .slice ba bn bc ∧ y.b = .slice ba' bn' bc') := ⟨kv, kv', mv, mv', cv, cv', bv, bv'⟩
  have EO : Hid (eqO x.o y.o = true ↔ p.o = q.o) := by rw [eqO_iff, ho, ho']; exact Iff.rfl
  clear h k ks ks' ms ms' cs cs' bs bs' bm bm' kv kv' mv mv' cv cv' bv bv' m0 m1 bW bV zW zV ho ho'

  by_cases e1 : mn = mn'
  · subst e1
    by_cases e2 : cn = cn'
    · subst e2
      have m0' := M0.out.2.1.m
      rw [HV.out.2.2.1] at m0'
      have m1' := M0.out.2.2.m
      rw [HV.out.2.2.2.1] at m1'
      have c0' := M0.out.2.1.c
      rw [HV.out.2.2.2.2.1] at c0'
      have c1' := M0.out.2.2.c
      rw [HV.out.2.2.2.2.2.1] at c1'
      go_enter Try.func33, Try.ntmps33
      go_wp2_with fail
      clear m0' m1' c0' c1'
      go_loopw [5] (fun v wr => ∃ i : Nat, i ≤ mn ∧ v = .int .i64 i ∧ p.ms.take i = q.ms.take i ∧ Below V0.heap.size V0 wr) (fun v _ => mn - (intOf v).toNat)
      case atStart => exact ⟨0, by omega, rfl, rfl, Below.refl _ _⟩
      case round =>
        obtain ⟨i, hi, rfl, hf, hB⟩ := hrel
        have J : Hid (p.ms.take i = q.ms.take i ∧ Below V0.heap.size V0 wr ∧ Below w.heap.size w wr ∧ PrAt wr w.heap.size x ∧ PrAt wr W.heap.size y) := ⟨hf, hB, below_over M0.out.1 hB, M0.out.2.1.below hB, M0.out.2.2.below hB⟩
        have hi0 : (0 : Int) ≤ (i : Int) := by omega
        have c0 := J.out.2.2.2.1.m
        rw [HV.out.2.2.1] at c0
        have c1 := J.out.2.2.2.2.m
        rw [HV.out.2.2.2.1] at c1
        clear hf hB
        by_cases hit : i < mn
        · have hi1 : (i : Int) < (mn : Int) := by omega
          obtain ⟨b, o, rfl⟩ := H.out.2.2.1.some' (by omega)
          obtain ⟨b', o', rfl⟩ := H.out.2.2.2.1.some' (by omega)
          obtain ⟨u, hx⟩ := lt_nth (l := p.ms) (i := i) (by rw [H.out.2.2.1.len]; exact hit)
          obtain ⟨v, hy⟩ := lt_nth (l := q.ms) (i := i) (by rw [H.out.2.2.2.1.len]; exact hit)
          have l0 := fun k : Later wr => lM ((H.out.2.2.1.below J.out.2.2.1).below k.below) hx
          have l1 := fun k : Later wr => lM ((H.out.2.2.2.1.below J.out.2.2.1).below k.below) hy
          have k0 : Hid (p.ms[i]? = some u ∧ q.ms[i]? = some v) := ⟨hx, hy⟩
          have d0 := fun k : Later wr => (J.out.2.2.2.1.below k.below).m
          rw [HV.out.2.2.1] at d0
          have d1 := fun k : Later wr => (J.out.2.2.2.2.below k.below).m
          rw [HV.out.2.2.2.1] at d1
          clear hx hy
          by_cases e0 : u = v
          · have e1 : eqM u v = true := eqM_iff.2 e0
            have E : Hid (p.ms.take (i + 1) = q.ms.take (i + 1)) := take_next J.out.1 k0.out.1 k0.out.2 e0
            clear e0
            go_wp2_with fail
            clear c0 c1
            refine wp_region_later (by kernel_rfl) (by kernel_rfl) ?_
            repeat (go_big_quiet_step (first | exact rfl))
            refine wpQuiet_nil ?_
            intro _ hw'
            obtain ⟨k, rfl⟩ := hw'
            clear d0 d1 l0 l1
            go_wp2
            go_roundw
            case rel => exact ⟨i + 1, by omega, by go_num, E.out, below_later J.out.2.1 k⟩
            case measure => simp [intOf]; omega
          · have e1 : eqM u v = false := eqM_no e0
            have E : Hid (¬ p.ms = q.ms) := ne_at k0.out.1 k0.out.2 e0
            clear e0
            go_wp2_with fail
            clear c0 c1
            refine wp_region_later (by kernel_rfl) (by kernel_rfl) ?_
            repeat (go_big_quiet_step (first | exact rfl))
            refine wpQuiet_nil ?_
            intro _ hw'
            obtain ⟨k, rfl⟩ := hw'
            clear d0 d1 l0 l1
            go_wp2
            go_ret
            exact ⟨TellB.no (fun e => E.out e.1), below_later J.out.2.2.1 k⟩
        · have hin : i = mn := by omega
          have hi1 : ¬ (i : Int) < (mn : Int) := by omega
          have E : Hid (p.ms = q.ms) := eq_end J.out.1 (by rw [hin]; exact H.out.2.2.1.len) (by rw [hin]; exact H.out.2.2.2.1.len)
          clear hin
          obtain ⟨V1, hV1⟩ : ∃ z, wr = z := ⟨_, rfl⟩
          rw [hV1]
          have M1 : Hid (Below w.heap.size w V1 ∧ PrAt V1 w.heap.size x ∧ PrAt V1 W.heap.size y) := by rw [← hV1]; exact J.out.2.2
          have E0 : Hid (p.ms = q.ms) := E.out
          rw [hV1] at c0 c1
          clear J E hV1 hit hi
          go_wp2_with fail
          clear c0 c1 hi1 hi0
          go_loopw [6] (fun v wr => ∃ i : Nat, i ≤ cn ∧ v = .int .i64 i ∧ p.cs.take i = q.cs.take i ∧ Below V1.heap.size V1 wr) (fun v _ => cn - (intOf v).toNat)
          case atStart => exact ⟨0, by omega, rfl, rfl, Below.refl _ _⟩
          case round =>
            obtain ⟨i, hi, rfl, hf, hB⟩ := hrel
            have J : Hid (p.cs.take i = q.cs.take i ∧ Below V1.heap.size V1 wr ∧ Below w.heap.size w wr ∧ PrAt wr w.heap.size x ∧ PrAt wr W.heap.size y) := ⟨hf, hB, below_over M1.out.1 hB, M1.out.2.1.below hB, M1.out.2.2.below hB⟩
            have hi0 : (0 : Int) ≤ (i : Int) := by omega
            have c0 := J.out.2.2.2.1.c
            rw [HV.out.2.2.2.2.1] at c0
            have c1 := J.out.2.2.2.2.c
            rw [HV.out.2.2.2.2.2.1] at c1
            clear hf hB
            by_cases hit : i < cn
            · have hi1 : (i : Int) < (cn : Int) := by omega
              obtain ⟨b, o, rfl⟩ := H.out.2.2.2.2.1.some' (by omega)
              obtain ⟨b', o', rfl⟩ := H.out.2.2.2.2.2.1.some' (by omega)
              obtain ⟨u, hx⟩ := lt_nth (l := p.cs) (i := i) (by rw [H.out.2.2.2.2.1.len]; exact hit)
              obtain ⟨v, hy⟩ := lt_nth (l := q.cs) (i := i) (by rw [H.out.2.2.2.2.2.1.len]; exact hit)
              have l0 := fun k : Later wr => lC ((H.out.2.2.2.2.1.below J.out.2.2.1).below k.below) hx
              have l1 := fun k : Later wr => lC ((H.out.2.2.2.2.2.1.below J.out.2.2.1).below k.below) hy
              have k0 : Hid (p.cs[i]? = some u ∧ q.cs[i]? = some v) := ⟨hx, hy⟩
              have d0 := fun k : Later wr => (J.out.2.2.2.1.below k.below).c
              rw [HV.out.2.2.2.2.1] at d0
              have d1 := fun k : Later wr => (J.out.2.2.2.2.below k.below).c
              rw [HV.out.2.2.2.2.2.1] at d1
              clear hx hy
              by_cases e0 : u = v
              · have e1 : eqC u v = true := eqC_iff.2 e0
                have E : Hid (p.cs.take (i + 1) = q.cs.take (i + 1)) := take_next J.out.1 k0.out.1 k0.out.2 e0
                clear e0
                go_wp2_with fail
                clear c0 c1
                refine wp_region_later (by kernel_rfl) (by kernel_rfl) ?_
                repeat (go_big_quiet_step (first | exact rfl))
                refine wpQuiet_nil ?_
                intro _ hw'
                obtain ⟨k, rfl⟩ := hw'
                clear d0 d1 l0 l1
                go_wp2
                go_roundw
                case rel => exact ⟨i + 1, by omega, by go_num, E.out, below_later J.out.2.1 k⟩
                case measure => simp [intOf]; omega
              · have e1 : eqC u v = false := eqC_no e0
                have E : Hid (¬ p.cs = q.cs) := ne_at k0.out.1 k0.out.2 e0
                clear e0
                go_wp2_with fail
                clear c0 c1
                refine wp_region_later (by kernel_rfl) (by kernel_rfl) ?_
                repeat (go_big_quiet_step (first | exact rfl))
                refine wpQuiet_nil ?_
                intro _ hw'
                obtain ⟨k, rfl⟩ := hw'
                clear d0 d1 l0 l1
                go_wp2
                go_ret
                exact ⟨TellB.no (fun e => E.out e.2), below_later J.out.2.2.1 k⟩
            · have hin : i = cn := by omega
              have hi1 : ¬ (i : Int) < (cn : Int) := by omega
              have E : Hid (p.cs = q.cs) := eq_end J.out.1 (by rw [hin]; exact H.out.2.2.2.2.1.len) (by rw [hin]; exact H.out.2.2.2.2.2.1.len)
              clear hin
              go_wp2
              go_ret
              exact ⟨TellB.yes ⟨E0.out, E.out⟩, J.out.2.2.1⟩
    · have g2 : ((cn : Int) != (cn' : Int)) = true := by simp; omega
      have m0' := M0.out.2.1.m
      rw [HV.out.2.2.1] at m0'
      have m1' := M0.out.2.2.m
      rw [HV.out.2.2.2.1] at m1'
      have c0' := M0.out.2.1.c
      rw [HV.out.2.2.2.2.1] at c0'
      have c1' := M0.out.2.2.c
      rw [HV.out.2.2.2.2.2.1] at c1'
      have E : Hid (¬ cn = cn') := e2
      clear e2
      go_enter Try.func33, Try.ntmps33
      go_wp2
      go_ret
      exact ⟨TellB.no (fun e => E.out (by rw [← H.out.2.2.2.2.1.len, ← H.out.2.2.2.2.2.1.len, e.2])), M0.out.1⟩
  · have g2 : ((mn : Int) != (mn' : Int)) = true := by simp; omega
    have m0' := M0.out.2.1.m
    rw [HV.out.2.2.1] at m0'
    have m1' := M0.out.2.2.m
    rw [HV.out.2.2.2.1] at m1'
    have E : Hid (¬ mn = mn') := e1
    clear e1
    go_enter Try.func33, Try.ntmps33
    go_wp2
    go_ret
    exact ⟨TellB.no (fun e => E.out (by rw [← H.out.2.2.1.len, ← H.out.2.2.2.1.len, e.1])), M0.out.1⟩
/-- Two rows of numbers, the same? -/
def eqIs : List Int → List Int → Bool
  | [], [] => true
  | x :: l, y :: m => x == y && eqIs l m
  | _, _ => false
theorem eqIs_iff : ∀ {l m : List Int}, eqIs l m = true ↔ l = m
  | [], [] => by simp [eqIs]
  | [], y :: m => by simp [eqIs]
  | x :: l, [] => by simp [eqIs]
  | x :: l, y :: m => by rw [eqIs, Bool.and_eq_true, eqIs_iff]; simp
theorem eqIs_no {l m : List Int} (h : ¬ l = m) : eqIs l m = false := by
  cases hh : eqIs l m with
  | false => rfl
  | true => exact absurd (eqIs_iff.1 hh) h
theorem rints_b (a : Option Addr) (n c : Nat) (l : List Int) (a' : Option Addr) (n' c' : Nat) (m : List Int) (w : World) (hs : SlAt eI w a n c l) (ht : SlAt eI w a' n' c' m) :
    Calls Try.prog 34 #[.slice a n c, .slice a' n' c'] w fun r w' => r = .returned (.bool (eqIs l m)) ∧ Below w.heap.size w w' :=
  (rints_any a n c l a' n' c' m w hs ht).mono fun r y ⟨⟨R, hr, hR⟩, hy⟩ => ⟨by rw [hr]; exact ret_bool (by rw [Bool.eq_iff_iff, hR, eqIs_iff]), hy⟩
set_option maxHeartbeats 4000000 in
theorem rsame_any (x y : Pr) (p q : Pv) (w : World) (h : IsPv w x p) (k : IsPv w y q) :
    Calls Try.prog 11 #[.agg x.cs, .agg y.cs] w fun r w' => TellB r (p = q) ∧ Below w.heap.size w w' := by
  obtain ⟨ka, kn, kc, kv, ks⟩ := h.k
  obtain ⟨ka', kn', kc', kv', ks'⟩ := k.k
  obtain ⟨ma, mn, mc, mv, ms⟩ := h.m
  obtain ⟨ma', mn', mc', mv', ms'⟩ := k.m
  obtain ⟨ca, cn, cc, cv, cs⟩ := h.c
  obtain ⟨ca', cn', cc', cv', cs'⟩ := k.c
  obtain ⟨rr, ⟨ba, bn, bc, bv, bs⟩, bm⟩ := h.b
  obtain ⟨rr', ⟨ba', bn', bc', bv', bs'⟩, bm'⟩ := k.b
  obtain ⟨W, hW, m0, bW, zW⟩ := PrAt.new w x
  obtain ⟨V0, hV, m1, bV, zV⟩ := PrAt.new W y
  have ho : x.o = p.o := h.o
  have ho' : y.o = q.o := k.o
  have M0 : Hid (Below w.heap.size w V0 ∧ PrAt V0 w.heap.size x ∧ PrAt V0 W.heap.size y) := ⟨below_over bW bV, m0.below bV, m1⟩
  have i0 := ks.int
  have i1 := ks'.int
  have i2 := ms.int
  have i3 := ms'.int
  have i4 := cs.int
  have i5 := cs'.int
  have i6 := bs.int
  have i7 := bs'.int
  have HP : Hid (IsPv w x p ∧ IsPv w y q) := ⟨h, k⟩
  have H : Hid (SlAt eK w ka kn kc p.ks ∧ SlAt eK w ka' kn' kc' q.ks ∧ SlAt eM w ma mn mc p.ms ∧ SlAt eM w ma' mn' mc' q.ms ∧ SlAt eC w ca cn cc p.cs ∧ SlAt eC w ca' cn' cc' q.cs ∧ SlAt eB w ba bn bc rr ∧ SlAt eB w ba' bn' bc' rr' ∧ Mem w rr p.bs ∧ Mem w rr' q.bs) := ⟨ks, ks', ms, ms', cs, cs', bs, bs', bm, bm'⟩
  have HV : Hid (x.k = .slice ka kn kc ∧ y.k = .slice ka' kn' kc' ∧ x.m = .slice ma mn mc ∧ y.m = .slice ma' mn' mc' ∧ x.c = .slice ca cn cc ∧ y.c = .slice ca' cn' cc' ∧ x.b = .slice ba bn bc ∧ y.b = .slice ba' bn' bc') := ⟨kv, kv', mv, mv', cv, cv', bv, bv'⟩
  have EO : Hid (eqO x.o y.o = true ↔ p.o = q.o) := by rw [eqO_iff, ho, ho']; exact Iff.rfl
  clear h k ks ks' ms ms' cs cs' bs bs' bm bm' kv kv' mv mv' cv cv' bv bv' m0 m1 bW bV zW zV ho ho'

  have o0 := M0.out.2.1.own'
  have o1 := M0.out.2.2.own'
  have k0' := M0.out.2.1.k
  rw [HV.out.1] at k0'
  have k1' := M0.out.2.2.k
  rw [HV.out.2.1] at k1'
  have b0' := M0.out.2.1.b
  rw [HV.out.2.2.2.2.2.2.1] at b0'
  have b1' := M0.out.2.2.b
  rw [HV.out.2.2.2.2.2.2.2] at b1'
  have d0' := M0.out.2.1.ld
  have d1' := M0.out.2.2.ld
  obtain ⟨t, ht⟩ : ∃ z, eqO x.o y.o = z := ⟨_, rfl⟩
  rw [ht] at EO
  cases t
  · go_enter Try.func11, Try.ntmps11
    go_wp2
    go_ret
    exact ⟨TellB.no (fun e => by have := EO.out.2 (by rw [e]); cases this), M0.out.1⟩
  · by_cases e1 : kn = kn'
    · subst e1
      by_cases e2 : bn = bn'
      · subst e2
        have P : Hid (Calls _ _ _ _ _) := rrows_any x y p q V0 (HP.out.1.below M0.out.1) (HP.out.2.below M0.out.1)
        go_enter Try.func11, Try.ntmps11
        go_wp2_with fail
        refine P.out.mono ?_
        rintro _ V1 ⟨⟨R, rfl, hR⟩, hY⟩
        have M1 : Hid (Below w.heap.size w V1 ∧ PrAt V1 w.heap.size x ∧ PrAt V1 W.heap.size y) := ⟨below_over M0.out.1 hY, M0.out.2.1.below hY, M0.out.2.2.below hY⟩
        have E1 : Hid (R = true ↔ p.ms = q.ms ∧ p.cs = q.cs) := hR
        clear hR hY o0 o1 k0' k1' b0' b1' d0' d1' P
        cases R
        · go_wp2
          go_ret
          exact ⟨TellB.no (fun e => by have := E1.out.2 (by rw [e]; exact ⟨rfl, rfl⟩); cases this), M1.out.1⟩
        · have k0' := M1.out.2.1.k
          rw [HV.out.1] at k0'
          go_wp2_with fail
          clear k0'
          go_loopw [5] (fun v wr => ∃ i : Nat, i ≤ kn ∧ v = .int .i64 i ∧ p.ks.take i = q.ks.take i ∧ Below V1.heap.size V1 wr) (fun v _ => kn - (intOf v).toNat)
          case atStart => exact ⟨0, by omega, rfl, rfl, Below.refl _ _⟩
          case round =>
            obtain ⟨i, hi, rfl, hf, hB⟩ := hrel
            have J : Hid (p.ks.take i = q.ks.take i ∧ Below V1.heap.size V1 wr ∧ Below w.heap.size w wr ∧ PrAt wr w.heap.size x ∧ PrAt wr W.heap.size y) := ⟨hf, hB, below_over M1.out.1 hB, M1.out.2.1.below hB, M1.out.2.2.below hB⟩
            have hi0 : (0 : Int) ≤ (i : Int) := by omega
            have c0 := J.out.2.2.2.1.k
            rw [HV.out.1] at c0
            have c1 := J.out.2.2.2.2.k
            rw [HV.out.2.1] at c1
            clear hf hB
            by_cases hit : i < kn
            · have hi1 : (i : Int) < (kn : Int) := by omega
              obtain ⟨b, o, rfl⟩ := H.out.1.some' (by omega)
              obtain ⟨b', o', rfl⟩ := H.out.2.1.some' (by omega)
              obtain ⟨u, hx⟩ := lt_nth (l := p.ks) (i := i) (by rw [H.out.1.len]; exact hit)
              obtain ⟨v, hy⟩ := lt_nth (l := q.ks) (i := i) (by rw [H.out.2.1.len]; exact hit)
              have l0 := fun k : Later wr => lK ((H.out.1.below J.out.2.2.1).below k.below) hx
              have l1 := fun k : Later wr => lK ((H.out.2.1.below J.out.2.2.1).below k.below) hy
              have k0 : Hid (p.ks[i]? = some u ∧ q.ks[i]? = some v) := ⟨hx, hy⟩
              have d0 := fun k : Later wr => (J.out.2.2.2.1.below k.below).k
              rw [HV.out.1] at d0
              have d1 := fun k : Later wr => (J.out.2.2.2.2.below k.below).k
              rw [HV.out.2.1] at d1
              clear hx hy
              by_cases e0 : u = v
              · have e1 : (u != v) = false := by simp [e0]
                have E : Hid (p.ks.take (i + 1) = q.ks.take (i + 1)) := take_next J.out.1 k0.out.1 k0.out.2 e0
                clear e0
                go_wp2_with fail
                clear c0 c1
                refine wp_region_later (by kernel_rfl) (by kernel_rfl) ?_
                repeat (go_big_quiet_step (first | exact rfl))
                refine wpQuiet_nil ?_
                intro _ hw'
                obtain ⟨k, rfl⟩ := hw'
                clear d0 d1 l0 l1
                go_wp2
                go_roundw
                case rel => exact ⟨i + 1, by omega, by go_num, E.out, below_later J.out.2.1 k⟩
                case measure => simp [intOf]; omega
              · have e1 : (u != v) = true := by simp [e0]
                have E : Hid (¬ p.ks = q.ks) := ne_at k0.out.1 k0.out.2 e0
                clear e0
                go_wp2_with fail
                clear c0 c1
                refine wp_region_later (by kernel_rfl) (by kernel_rfl) ?_
                repeat (go_big_quiet_step (first | exact rfl))
                refine wpQuiet_nil ?_
                intro _ hw'
                obtain ⟨k, rfl⟩ := hw'
                clear d0 d1 l0 l1
                go_wp2
                go_ret
                exact ⟨TellB.no (fun e => E.out (by rw [e])), below_later J.out.2.2.1 k⟩
            · have hin : i = kn := by omega
              have hi1 : ¬ (i : Int) < (kn : Int) := by omega
              have E : Hid (p.ks = q.ks) := eq_end J.out.1 (by rw [hin]; exact H.out.1.len) (by rw [hin]; exact H.out.2.1.len)
              clear hin
              obtain ⟨V2, hV2⟩ : ∃ z, wr = z := ⟨_, rfl⟩
              rw [hV2]
              have M2 : Hid (Below w.heap.size w V2 ∧ PrAt V2 w.heap.size x ∧ PrAt V2 W.heap.size y) := by rw [← hV2]; exact J.out.2.2
              have E0 : Hid (p.ks = q.ks) := E.out
              rw [hV2] at c0 c1
              clear J E hV2 hit hi
              go_wp2_with fail
              clear c0 c1 hi1 hi0
              go_loopw [6] (fun v wr => ∃ i : Nat, i ≤ bn ∧ v = .int .i64 i ∧ p.bs.take i = q.bs.take i ∧ Below V2.heap.size V2 wr) (fun v _ => bn - (intOf v).toNat)
              case atStart => exact ⟨0, by omega, rfl, rfl, Below.refl _ _⟩
              case round =>
                obtain ⟨i, hi, rfl, hf, hB⟩ := hrel
                have J : Hid (p.bs.take i = q.bs.take i ∧ Below V2.heap.size V2 wr ∧ Below w.heap.size w wr ∧ PrAt wr w.heap.size x ∧ PrAt wr W.heap.size y) := ⟨hf, hB, below_over M2.out.1 hB, M2.out.2.1.below hB, M2.out.2.2.below hB⟩
                have hi0 : (0 : Int) ≤ (i : Int) := by omega
                have c0 := J.out.2.2.2.1.b
                rw [HV.out.2.2.2.2.2.2.1] at c0
                have c1 := J.out.2.2.2.2.b
                rw [HV.out.2.2.2.2.2.2.2] at c1
                clear hf hB
                by_cases hit : i < bn
                · have hi1 : (i : Int) < (bn : Int) := by omega
                  obtain ⟨b, o, rfl⟩ := H.out.2.2.2.2.2.2.1.some' (by omega)
                  obtain ⟨b', o', rfl⟩ := H.out.2.2.2.2.2.2.2.1.some' (by omega)
                  obtain ⟨u, z, hx, hz, hv, hps⟩ := H.out.2.2.2.2.2.2.2.2.1.get (i := i) (by rw [← H.out.2.2.2.2.2.2.2.2.1.len, H.out.2.2.2.2.2.2.1.len]; exact hit)
                  obtain ⟨v, z', hy, hz', hv', hps'⟩ := H.out.2.2.2.2.2.2.2.2.2.get (i := i) (by rw [← H.out.2.2.2.2.2.2.2.2.2.len, H.out.2.2.2.2.2.2.2.1.len]; exact hit)
                  have l0 := fun k : Later wr => lB0 ((H.out.2.2.2.2.2.2.1.below J.out.2.2.1).below k.below) hx
                  have l0' := fun k : Later wr => lB1 ((H.out.2.2.2.2.2.2.1.below J.out.2.2.1).below k.below) hx
                  have l1 := fun k : Later wr => lB0 ((H.out.2.2.2.2.2.2.2.1.below J.out.2.2.1).below k.below) hy
                  have l1' := fun k : Later wr => lB1 ((H.out.2.2.2.2.2.2.2.1.below J.out.2.2.1).below k.below) hy
                  have k0 : Hid (p.bs[i]? = some z ∧ q.bs[i]? = some z' ∧ u.v = z.v ∧ v.v = z'.v ∧ SlAt eI w u.a u.n u.c z.ps ∧ SlAt eI w v.a v.n v.c z'.ps) := ⟨hz, hz', hv, hv', hps, hps'⟩
                  clear hz hz' hv hv' hps hps'
                  have d0 := fun k : Later wr => (J.out.2.2.2.1.below k.below).b
                  rw [HV.out.2.2.2.2.2.2.1] at d0
                  have d1 := fun k : Later wr => (J.out.2.2.2.2.below k.below).b
                  rw [HV.out.2.2.2.2.2.2.2] at d1
                  clear hx hy
                  by_cases e0 : u.v = v.v
                  · have e1 : (u.v != v.v) = false := by simp [e0]
                    have E0 : Hid (z.v = z'.v) := by rw [← k0.out.2.2.1, ← k0.out.2.2.2.1]; exact e0
                    have P : Hid (∀ k : Later wr, _) := fun k : Later wr => rints_b u.a u.n u.c z.ps v.a v.n v.c z'.ps k.val ((k0.out.2.2.2.2.1.below J.out.2.2.1).below k.below) ((k0.out.2.2.2.2.2.below J.out.2.2.1).below k.below)
                    clear e0
                    by_cases f0 : z.ps = z'.ps
                    · have F0 : Hid (eqIs z.ps z'.ps = true) := eqIs_iff.2 f0
                      rw [F0.out] at P
                      have E : Hid (p.bs.take (i + 1) = q.bs.take (i + 1)) := take_next J.out.1 k0.out.1 k0.out.2.1 (mb_ext E0.out f0)
                      clear f0
                      go_wp2_with fail
                      clear c0 c1
                      refine wp_region_later (by kernel_rfl) (by kernel_rfl) ?_
                      repeat (go_big_quiet_step (first | exact rfl | (go_at_call 34; with_reducible exact Calls.later_of (P.out _))))
                      refine wpQuiet_nil ?_
                      intro _ hw'
                      obtain ⟨k, rfl⟩ := hw'
                      clear d0 d1 l0 l1 l0' l1'
                      go_wp2
                      go_roundw
                      case rel => exact ⟨i + 1, by omega, by go_num, E.out, below_later J.out.2.1 k⟩
                      case measure => simp [intOf]; omega
                    · have F0 : Hid (eqIs z.ps z'.ps = false) := eqIs_no f0
                      rw [F0.out] at P
                      have E : Hid (¬ p.bs = q.bs) := ne_at k0.out.1 k0.out.2.1 (fun e => f0 (by rw [e]))
                      clear f0
                      go_wp2_with fail
                      clear c0 c1
                      refine wp_region_later (by kernel_rfl) (by kernel_rfl) ?_
                      repeat (go_big_quiet_step (first | exact rfl | (go_at_call 34; with_reducible exact Calls.later_of (P.out _))))
                      refine wpQuiet_nil ?_
                      intro _ hw'
                      obtain ⟨k, rfl⟩ := hw'
                      clear d0 d1 l0 l1 l0' l1'
                      go_wp2
                      go_ret
                      exact ⟨TellB.no (fun e => E.out (by rw [e])), below_later J.out.2.2.1 k⟩
                  · have e1 : (u.v != v.v) = true := by simp [e0]
                    have E : Hid (¬ p.bs = q.bs) := ne_at k0.out.1 k0.out.2.1 (fun e => e0 (by rw [k0.out.2.2.1, k0.out.2.2.2.1, e]))
                    clear e0
                    go_wp2_with fail
                    clear c0 c1
                    refine wp_region_later (by kernel_rfl) (by kernel_rfl) ?_
                    repeat (go_big_quiet_step (first | exact rfl))
                    refine wpQuiet_nil ?_
                    intro _ hw'
                    obtain ⟨k, rfl⟩ := hw'
                    clear d0 d1 l0 l1 l0' l1'
                    go_wp2
                    go_ret
                    exact ⟨TellB.no (fun e => E.out (by rw [e])), below_later J.out.2.2.1 k⟩
                · have hin : i = bn := by omega
                  have hi1 : ¬ (i : Int) < (bn : Int) := by omega
                  have E : Hid (p.bs = q.bs) := eq_end J.out.1 (by rw [hin]; exact (H.out.2.2.2.2.2.2.2.2.1.len.symm.trans H.out.2.2.2.2.2.2.1.len)) (by rw [hin]; exact (H.out.2.2.2.2.2.2.2.2.2.len.symm.trans H.out.2.2.2.2.2.2.2.1.len))
                  clear hin
                  go_wp2
                  go_ret
                  exact ⟨TellB.yes (pv_ext (EO.out.1 (by trivial)) E0.out (E1.out.1 (by trivial)).1 (E1.out.1 (by trivial)).2 E.out), J.out.2.2.1⟩
      · have g2 : ((bn : Int) != (bn' : Int)) = true := by simp; omega
        have E : Hid (¬ bn = bn') := e2
        clear e2
        go_enter Try.func11, Try.ntmps11
        go_wp2
        go_ret
        exact ⟨TellB.no (fun e => E.out (by rw [← H.out.2.2.2.2.2.2.1.len, ← H.out.2.2.2.2.2.2.2.1.len, H.out.2.2.2.2.2.2.2.2.1.len, H.out.2.2.2.2.2.2.2.2.2.len, e])), M0.out.1⟩
    · have g2 : ((kn : Int) != (kn' : Int)) = true := by simp; omega
      have E : Hid (¬ kn = kn') := e1
      clear e1
      go_enter Try.func11, Try.ntmps11
      go_wp2
      go_ret
      exact ⟨TellB.no (fun e => E.out (by rw [← H.out.1.len, ← H.out.2.1.len, e])), M0.out.1⟩
end Go.Proofs.Ytmfjlhcobhilcab
