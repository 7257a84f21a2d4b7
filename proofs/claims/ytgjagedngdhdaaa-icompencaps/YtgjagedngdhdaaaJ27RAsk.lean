/-
  What is asked of what is provisioned, by the definition: the walks of Service, VIDOf, Carrier, Attached, Services, for every input. A customer's frame's service: walks of Classify, of code and definition, each for every input. What goes to customers: walks of Decap and Local, each for every input.
-/
import Derived.Test.YtgjagedngdhdaaaJ02Knd
import Derived.Test.YtgjagedngdhdaaaJ16XBFrame
import Derived.Test.YtgjagedngdhdaaaJ15XCheck
import Derived.Test.YtgjagedngdhdaaaJ26Cp
import Derived.Test.YtgjagedngdhdaaaJ23Rd
namespace Go.Proofs.Ytgjagedngdhdaaa

section
set_option linter.unusedVariables false
set_option maxRecDepth 4000
set_option linter.unusedSimpArgs false
open Go.RowKit
attribute [local go_sem ↓] ldM stM ldC stC ldB stB ldP stP apI bsI
attribute [local go_sem] bsI_is

set_option maxHeartbeats 2000000 in
theorem rsvc_any (x : Pr) (p : Pv) (port vid : Int) (w : World) (h : IsPv w x p) :
    Calls Try.prog 22 #[.agg x.cs, .int .i64 port, .int .i64 vid] w fun r w' => r = .returned (.tuple #[.int .i64 (svc p port vid).1, .bool (svc p port vid).2]) ∧ Below w.heap.size w w' := by
  obtain ⟨a, n, c, hv, hs⟩ := h.m
  obtain ⟨W, hW, r0, bW, zW⟩ := PrAt.new w x
  have c7 := r0.m
  rw [hv] at c7
  have hnn := hs.int
  obtain ⟨R, hR⟩ : ∃ z, svc p port vid = z := ⟨_, rfl⟩
  have H : Hid (SlAt eM W a n c p.ms ∧ p.ms.length = n ∧ Below w.heap.size w W ∧ PrAt W w.heap.size x ∧ x.m = .slice a n c) := ⟨hs.below bW, hs.len, bW, r0, hv⟩
  have HR : Hid (svc p port vid = R) := hR
  rw [hR]
  clear hs bW zW r0 h hv hR
  go_enter Try.func22, Try.ntmps22
  go_wp2_with fail
  go_loopw [8] (fun v13 wr => ∃ i : Nat, i ≤ n ∧ v13 = .int .i64 i ∧ R = fnd (fun m => m.p == port && m.v == vid) (fun m => m.s) (p.ms.drop i) ∧ Below W.heap.size W wr) (fun v13 _ => n - (intOf v13).toNat)
  case atStart => exact ⟨0, by omega, rfl, HR.out.symm, Below.refl _ _⟩
  case round =>
    obtain ⟨i, hi, rfl, hf, hB⟩ := hrel
    have J : Hid (R = fnd (fun m => m.p == port && m.v == vid) (fun m => m.s) (p.ms.drop i) ∧ Below W.heap.size W wr) := ⟨hf, hB⟩
    have hi0 : (0 : Int) ≤ (i : Int) := by omega
    clear c7
    have c7 := (H.out.2.2.2.1.below hB).m
    rw [H.out.2.2.2.2] at c7
    by_cases hit : i < n
    · have hi1 : (i : Int) < (n : Int) := by omega
      obtain ⟨b, o, rfl⟩ := H.out.1.some' (by omega)
      obtain ⟨y, hx⟩ := lt_nth (l := p.ms) (i := i) (by rw [H.out.2.1]; exact hit)
      have l0 := lM0 (H.out.1.below hB) hx
      have l1 := lM1 (H.out.1.below hB) hx
      have l2 := lM2 (H.out.1.below hB) hx
      have HX : Hid (p.ms[i]? = some y) := hx
      clear hf hB hx
      by_cases e0 : y.p = port
      · have q0 : (y.p == port) = true := by simp [e0]
        have Q0 : Hid (y.p = port) := e0
        clear e0
        by_cases e1 : y.v = vid
        · have q1 : (y.v == vid) = true := by simp [e1]
          have Q1 : Hid (y.v = vid) := e1
          clear e1
          have E : Hid (R = (y.s, true)) := by rw [J.out.1, fnd_yes HX.out (by simp [Q0.out, Q1.out])]; exact rfl
          go_wp2
          go_returns
          exact ⟨by rw [E.out]; rfl, below_over H.out.2.2.1 J.out.2⟩
        · have q1 : (y.v == vid) = false := by simp [e1]
          have Q1 : Hid (¬ y.v = vid) := e1
          clear e1
          have E : Hid (R = fnd (fun m => m.p == port && m.v == vid) (fun m => m.s) (p.ms.drop (i + 1))) := by rw [J.out.1, fnd_no HX.out (by simp [Q1.out])]; exact rfl
          go_wp2
          go_roundw
          case rel => exact ⟨i + 1, by omega, by go_num, E.out, J.out.2⟩
          case measure => simp [intOf]; omega
      · have q0 : (y.p == port) = false := by simp [e0]
        have Q0 : Hid (¬ y.p = port) := e0
        clear e0
        have E : Hid (R = fnd (fun m => m.p == port && m.v == vid) (fun m => m.s) (p.ms.drop (i + 1))) := by rw [J.out.1, fnd_no HX.out (by simp [Q0.out])]; exact rfl
        go_wp2
        go_roundw
        case rel => exact ⟨i + 1, by omega, by go_num, E.out, J.out.2⟩
        case measure => simp [intOf]; omega
    · have hin : i = n := by omega
      subst hin
      have hi1 : ¬ (i : Int) < (i : Int) := by omega
      have E : Hid (R = (0, false)) := by rw [J.out.1, fnd_end (by rw [H.out.2.1]; exact Nat.le_refl _)]; exact rfl
      clear hf hB
      go_wp2
      go_returns
      exact ⟨by rw [E.out]; rfl, below_over H.out.2.2.1 J.out.2⟩
set_option maxHeartbeats 2000000 in
theorem rvof_any (x : Pr) (p : Pv) (port isid : Int) (w : World) (h : IsPv w x p) :
    Calls Try.prog 25 #[.agg x.cs, .int .i64 port, .int .i64 isid] w fun r w' => r = .returned (.tuple #[.int .i64 (vof p port isid).1, .bool (vof p port isid).2]) ∧ Below w.heap.size w w' := by
  obtain ⟨a, n, c, hv, hs⟩ := h.m
  obtain ⟨W, hW, r0, bW, zW⟩ := PrAt.new w x
  have c7 := r0.m
  rw [hv] at c7
  have hnn := hs.int
  obtain ⟨R, hR⟩ : ∃ z, vof p port isid = z := ⟨_, rfl⟩
  have H : Hid (SlAt eM W a n c p.ms ∧ p.ms.length = n ∧ Below w.heap.size w W ∧ PrAt W w.heap.size x ∧ x.m = .slice a n c) := ⟨hs.below bW, hs.len, bW, r0, hv⟩
  have HR : Hid (vof p port isid = R) := hR
  rw [hR]
  clear hs bW zW r0 h hv hR
  go_enter Try.func25, Try.ntmps25
  go_wp2_with fail
  go_loopw [8] (fun v13 wr => ∃ i : Nat, i ≤ n ∧ v13 = .int .i64 i ∧ R = fnd (fun m => m.p == port && m.s == isid) (fun m => m.v) (p.ms.drop i) ∧ Below W.heap.size W wr) (fun v13 _ => n - (intOf v13).toNat)
  case atStart => exact ⟨0, by omega, rfl, HR.out.symm, Below.refl _ _⟩
  case round =>
    obtain ⟨i, hi, rfl, hf, hB⟩ := hrel
    have J : Hid (R = fnd (fun m => m.p == port && m.s == isid) (fun m => m.v) (p.ms.drop i) ∧ Below W.heap.size W wr) := ⟨hf, hB⟩
    have hi0 : (0 : Int) ≤ (i : Int) := by omega
    clear c7
    have c7 := (H.out.2.2.2.1.below hB).m
    rw [H.out.2.2.2.2] at c7
    by_cases hit : i < n
    · have hi1 : (i : Int) < (n : Int) := by omega
      obtain ⟨b, o, rfl⟩ := H.out.1.some' (by omega)
      obtain ⟨y, hx⟩ := lt_nth (l := p.ms) (i := i) (by rw [H.out.2.1]; exact hit)
      have l0 := lM0 (H.out.1.below hB) hx
      have l1 := lM1 (H.out.1.below hB) hx
      have l2 := lM2 (H.out.1.below hB) hx
      have HX : Hid (p.ms[i]? = some y) := hx
      clear hf hB hx
      by_cases e0 : y.p = port
      · have q0 : (y.p == port) = true := by simp [e0]
        have Q0 : Hid (y.p = port) := e0
        clear e0
        by_cases e1 : y.s = isid
        · have q1 : (y.s == isid) = true := by simp [e1]
          have Q1 : Hid (y.s = isid) := e1
          clear e1
          have E : Hid (R = (y.v, true)) := by rw [J.out.1, fnd_yes HX.out (by simp [Q0.out, Q1.out])]; exact rfl
          go_wp2
          go_returns
          exact ⟨by rw [E.out]; rfl, below_over H.out.2.2.1 J.out.2⟩
        · have q1 : (y.s == isid) = false := by simp [e1]
          have Q1 : Hid (¬ y.s = isid) := e1
          clear e1
          have E : Hid (R = fnd (fun m => m.p == port && m.s == isid) (fun m => m.v) (p.ms.drop (i + 1))) := by rw [J.out.1, fnd_no HX.out (by simp [Q1.out])]; exact rfl
          go_wp2
          go_roundw
          case rel => exact ⟨i + 1, by omega, by go_num, E.out, J.out.2⟩
          case measure => simp [intOf]; omega
      · have q0 : (y.p == port) = false := by simp [e0]
        have Q0 : Hid (¬ y.p = port) := e0
        clear e0
        have E : Hid (R = fnd (fun m => m.p == port && m.s == isid) (fun m => m.v) (p.ms.drop (i + 1))) := by rw [J.out.1, fnd_no HX.out (by simp [Q0.out])]; exact rfl
        go_wp2
        go_roundw
        case rel => exact ⟨i + 1, by omega, by go_num, E.out, J.out.2⟩
        case measure => simp [intOf]; omega
    · have hin : i = n := by omega
      subst hin
      have hi1 : ¬ (i : Int) < (i : Int) := by omega
      have E : Hid (R = (0, false)) := by rw [J.out.1, fnd_end (by rw [H.out.2.1]; exact Nat.le_refl _)]; exact rfl
      clear hf hB
      go_wp2
      go_returns
      exact ⟨by rw [E.out]; rfl, below_over H.out.2.2.1 J.out.2⟩
set_option maxHeartbeats 2000000 in
theorem rcar_any (x : Pr) (p : Pv) (isid : Int) (w : World) (h : IsPv w x p) :
    Calls Try.prog 44 #[.agg x.cs, .int .i64 isid] w fun r w' => r = .returned (.tuple #[.int .i64 (car p isid).1, .bool (car p isid).2]) ∧ Below w.heap.size w w' := by
  obtain ⟨a, n, c, hv, hs⟩ := h.c
  obtain ⟨W, hW, r0, bW, zW⟩ := PrAt.new w x
  have c7 := r0.c
  rw [hv] at c7
  have hnn := hs.int
  obtain ⟨R, hR⟩ : ∃ z, car p isid = z := ⟨_, rfl⟩
  have H : Hid (SlAt eC W a n c p.cs ∧ p.cs.length = n ∧ Below w.heap.size w W ∧ PrAt W w.heap.size x ∧ x.c = .slice a n c) := ⟨hs.below bW, hs.len, bW, r0, hv⟩
  have HR : Hid (car p isid = R) := hR
  rw [hR]
  clear hs bW zW r0 h hv hR
  go_enter Try.func44, Try.ntmps44
  go_wp2_with fail
  go_loopw [6] (fun v13 wr => ∃ i : Nat, i ≤ n ∧ v13 = .int .i64 i ∧ R = fnd (fun m => m.s == isid) (fun m => m.v) (p.cs.drop i) ∧ Below W.heap.size W wr) (fun v13 _ => n - (intOf v13).toNat)
  case atStart => exact ⟨0, by omega, rfl, HR.out.symm, Below.refl _ _⟩
  case round =>
    obtain ⟨i, hi, rfl, hf, hB⟩ := hrel
    have J : Hid (R = fnd (fun m => m.s == isid) (fun m => m.v) (p.cs.drop i) ∧ Below W.heap.size W wr) := ⟨hf, hB⟩
    have hi0 : (0 : Int) ≤ (i : Int) := by omega
    clear c7
    have c7 := (H.out.2.2.2.1.below hB).c
    rw [H.out.2.2.2.2] at c7
    by_cases hit : i < n
    · have hi1 : (i : Int) < (n : Int) := by omega
      obtain ⟨b, o, rfl⟩ := H.out.1.some' (by omega)
      obtain ⟨y, hx⟩ := lt_nth (l := p.cs) (i := i) (by rw [H.out.2.1]; exact hit)
      have l0 := lC0 (H.out.1.below hB) hx
      have l1 := lC1 (H.out.1.below hB) hx
      have HX : Hid (p.cs[i]? = some y) := hx
      clear hf hB hx
      by_cases e0 : y.s = isid
      · have q0 : (y.s == isid) = true := by simp [e0]
        have Q0 : Hid (y.s = isid) := e0
        clear e0
        have E : Hid (R = (y.v, true)) := by rw [J.out.1, fnd_yes HX.out (by simp [Q0.out])]; exact rfl
        go_wp2
        go_returns
        exact ⟨by rw [E.out]; rfl, below_over H.out.2.2.1 J.out.2⟩
      · have q0 : (y.s == isid) = false := by simp [e0]
        have Q0 : Hid (¬ y.s = isid) := e0
        clear e0
        have E : Hid (R = fnd (fun m => m.s == isid) (fun m => m.v) (p.cs.drop (i + 1))) := by rw [J.out.1, fnd_no HX.out (by simp [Q0.out])]; exact rfl
        go_wp2
        go_roundw
        case rel => exact ⟨i + 1, by omega, by go_num, E.out, J.out.2⟩
        case measure => simp [intOf]; omega
    · have hin : i = n := by omega
      subst hin
      have hi1 : ¬ (i : Int) < (i : Int) := by omega
      have E : Hid (R = (0, false)) := by rw [J.out.1, fnd_end (by rw [H.out.2.1]; exact Nat.le_refl _)]; exact rfl
      clear hf hB
      go_wp2
      go_returns
      exact ⟨by rw [E.out]; rfl, below_over H.out.2.2.1 J.out.2⟩
set_option maxHeartbeats 2000000 in
theorem ratt_any (x : Pr) (p : Pv) (isid : Int) (w : World) (h : IsPv w x p) (hl : p.ms.length ≤ 100) :
    Calls Try.prog 24 #[.agg x.cs, .int .i64 isid] w fun r w' => (∃ v, r = .returned v ∧ Own eI w' w.heap.size v (att p isid)) ∧ Below w.heap.size w w' := by
  obtain ⟨a, n, c, hv, hs⟩ := h.m
  obtain ⟨W, hW, r0, bW, zW⟩ := PrAt.new w x
  have c7 := r0.m
  rw [hv] at c7
  have hnn := hs.int
  obtain ⟨R, hR⟩ : ∃ z, att p isid = z := ⟨_, rfl⟩
  have H : Hid (SlAt eM W a n c p.ms ∧ p.ms.length = n ∧ Below w.heap.size w W ∧ PrAt W w.heap.size x ∧ x.m = .slice a n c ∧ n ≤ 100) := ⟨hs.below bW, hs.len, bW, r0, hv, by rw [← hs.len]; exact hl⟩
  have HR : Hid (att p isid = R) := hR
  rw [hR]
  clear hs bW zW r0 h hv hR hl
  go_enter Try.func24, Try.ntmps24
  go_wp2_with fail
  go_loopw [5, 6] (fun u v wr => ∃ (i : Nat) (acc : List Int), i ≤ n ∧ v = .int .i64 i ∧ R = acc ++ ((p.ms.drop i).filter (fun m => m.s == isid)).map (fun m => m.p) ∧ acc.length ≤ i ∧ Own eI wr W.heap.size u acc ∧ Below W.heap.size W wr) (fun u v _ => n - (intOf v).toNat)
  case atStart => exact ⟨0, [], by omega, rfl, HR.out.symm, Nat.le_refl _, Own.nil _ _, Below.refl _ _⟩
  case round =>
    obtain ⟨i, acc, hi, rfl, hf, ha, hO, hB⟩ := hrel
    have J : Hid (R = acc ++ ((p.ms.drop i).filter (fun m => m.s == isid)).map (fun m => m.p) ∧ acc.length ≤ i ∧ Own eI wr W.heap.size u5 acc ∧ Below W.heap.size W wr) := ⟨hf, ha, hO, hB⟩
    have hi0 : (0 : Int) ≤ (i : Int) := by omega
    clear c7
    have c7 := (H.out.2.2.2.1.below hB).m
    rw [H.out.2.2.2.2.1] at c7
    by_cases hit : i < n
    · have hi1 : (i : Int) < (n : Int) := by omega
      obtain ⟨b, o, rfl⟩ := H.out.1.some' (by omega)
      obtain ⟨y, hx⟩ := lt_nth (l := p.ms) (i := i) (by rw [H.out.2.1]; exact hit)
      have l0 := lM0 (H.out.1.below hB) hx
      have l1 := lM1 (H.out.1.below hB) hx
      have l2 := lM2 (H.out.1.below hB) hx
      have G : Hid (Own eI wr W.heap.size u5 acc ∧ Below W.heap.size W wr) := ⟨hO, hB⟩
      have HX : Hid (p.ms[i]? = some y) := hx
      by_cases e0 : y.s = isid
      · have q0 : (y.s == isid) = true := by simp [e0]
        have E : Hid (R = (acc ++ [y.p]) ++ ((p.ms.drop (i + 1)).filter (fun m => m.s == isid)).map (fun m => m.p)) := by rw [J.out.1, fil_yes HX.out q0, List.append_assoc]; exact rfl
        obtain ⟨v', X, aX, oX, bX⟩ := nI G.out.1 G.out.2.size (by have := H.out.2.2.2.2.2; have := J.out.2.1; omega) y.p
        clear e0 hf ha hO hB hx
        go_wp2
        go_roundw
        case rel => exact ⟨i + 1, _, by omega, by go_num, E.out, by have := J.out.2.1; simp; omega, oX, G.out.2.trans bX⟩
        case measure => simp [intOf]; omega
      · have q0 : (y.s == isid) = false := by simp [e0]
        have E : Hid (R = acc ++ ((p.ms.drop (i + 1)).filter (fun m => m.s == isid)).map (fun m => m.p)) := by rw [J.out.1, fil_no HX.out q0]; exact rfl
        clear e0 hf ha hO hB hx
        go_wp2
        go_roundw
        case rel => exact ⟨i + 1, acc, by omega, by go_num, E.out, by have := J.out.2.1; omega, G.out.1, G.out.2⟩
        case measure => simp [intOf]; omega
    · have hin : i = n := by omega
      subst hin
      have hi1 : ¬ (i : Int) < (i : Int) := by omega
      have E : Hid (R = acc) := by rw [J.out.1, fil_end (by rw [H.out.2.1]; exact Nat.le_refl _), List.append_nil]; exact rfl
      clear hf ha hO hB
      go_wp2
      go_ret
      exact ⟨⟨_, rfl, by rw [E.out]; exact J.out.2.2.1.mono H.out.2.2.1.size⟩, below_over H.out.2.2.1 J.out.2.2.2⟩
set_option maxHeartbeats 2000000 in
theorem rsvs_any (x : Pr) (p : Pv) (vid : Int) (w : World) (h : IsPv w x p) (hl : p.cs.length ≤ 100) :
    Calls Try.prog 107 #[.agg x.cs, .int .i64 vid] w fun r w' => (∃ v, r = .returned v ∧ Own eI w' w.heap.size v (svs p vid)) ∧ Below w.heap.size w w' := by
  obtain ⟨a, n, c, hv, hs⟩ := h.c
  obtain ⟨W, hW, r0, bW, zW⟩ := PrAt.new w x
  have c7 := r0.c
  rw [hv] at c7
  have hnn := hs.int
  obtain ⟨R, hR⟩ : ∃ z, svs p vid = z := ⟨_, rfl⟩
  have H : Hid (SlAt eC W a n c p.cs ∧ p.cs.length = n ∧ Below w.heap.size w W ∧ PrAt W w.heap.size x ∧ x.c = .slice a n c ∧ n ≤ 100) := ⟨hs.below bW, hs.len, bW, r0, hv, by rw [← hs.len]; exact hl⟩
  have HR : Hid (svs p vid = R) := hR
  rw [hR]
  clear hs bW zW r0 h hv hR hl
  go_enter Try.func107, Try.ntmps107
  go_wp2_with fail
  go_loopw [5, 6] (fun u v wr => ∃ (i : Nat) (acc : List Int), i ≤ n ∧ v = .int .i64 i ∧ R = acc ++ ((p.cs.drop i).filter (fun m => m.v == vid)).map (fun m => m.s) ∧ acc.length ≤ i ∧ Own eI wr W.heap.size u acc ∧ Below W.heap.size W wr) (fun u v _ => n - (intOf v).toNat)
  case atStart => exact ⟨0, [], by omega, rfl, HR.out.symm, Nat.le_refl _, Own.nil _ _, Below.refl _ _⟩
  case round =>
    obtain ⟨i, acc, hi, rfl, hf, ha, hO, hB⟩ := hrel
    have J : Hid (R = acc ++ ((p.cs.drop i).filter (fun m => m.v == vid)).map (fun m => m.s) ∧ acc.length ≤ i ∧ Own eI wr W.heap.size u5 acc ∧ Below W.heap.size W wr) := ⟨hf, ha, hO, hB⟩
    have hi0 : (0 : Int) ≤ (i : Int) := by omega
    clear c7
    have c7 := (H.out.2.2.2.1.below hB).c
    rw [H.out.2.2.2.2.1] at c7
    by_cases hit : i < n
    · have hi1 : (i : Int) < (n : Int) := by omega
      obtain ⟨b, o, rfl⟩ := H.out.1.some' (by omega)
      obtain ⟨y, hx⟩ := lt_nth (l := p.cs) (i := i) (by rw [H.out.2.1]; exact hit)
      have l0 := lC0 (H.out.1.below hB) hx
      have l1 := lC1 (H.out.1.below hB) hx
      have G : Hid (Own eI wr W.heap.size u5 acc ∧ Below W.heap.size W wr) := ⟨hO, hB⟩
      have HX : Hid (p.cs[i]? = some y) := hx
      by_cases e0 : y.v = vid
      · have q0 : (y.v == vid) = true := by simp [e0]
        have E : Hid (R = (acc ++ [y.s]) ++ ((p.cs.drop (i + 1)).filter (fun m => m.v == vid)).map (fun m => m.s)) := by rw [J.out.1, fil_yes HX.out q0, List.append_assoc]; exact rfl
        obtain ⟨v', X, aX, oX, bX⟩ := nI G.out.1 G.out.2.size (by have := H.out.2.2.2.2.2; have := J.out.2.1; omega) y.s
        clear e0 hf ha hO hB hx
        go_wp2
        go_roundw
        case rel => exact ⟨i + 1, _, by omega, by go_num, E.out, by have := J.out.2.1; simp; omega, oX, G.out.2.trans bX⟩
        case measure => simp [intOf]; omega
      · have q0 : (y.v == vid) = false := by simp [e0]
        have E : Hid (R = acc ++ ((p.cs.drop (i + 1)).filter (fun m => m.v == vid)).map (fun m => m.s)) := by rw [J.out.1, fil_no HX.out q0]; exact rfl
        clear e0 hf ha hO hB hx
        go_wp2
        go_roundw
        case rel => exact ⟨i + 1, acc, by omega, by go_num, E.out, by have := J.out.2.1; omega, G.out.1, G.out.2⟩
        case measure => simp [intOf]; omega
    · have hin : i = n := by omega
      subst hin
      have hi1 : ¬ (i : Int) < (i : Int) := by omega
      have E : Hid (R = acc) := by rw [J.out.1, fil_end (by rw [H.out.2.1]; exact Nat.le_refl _), List.append_nil]; exact rfl
      clear hf ha hO hB
      go_wp2
      go_ret
      exact ⟨⟨_, rfl, by rw [E.out]; exact J.out.2.2.1.mono H.out.2.2.1.size⟩, below_over H.out.2.2.1 J.out.2.2.2⟩
end

section
set_option linter.unusedVariables false
set_option maxRecDepth 4000
set_option linter.unusedSimpArgs false
open Go.RowKit
attribute [local go_sem ↓] ldP stP ldMc stMc ldFr stFr ldBf stBf stSb

def clsW (p : Pv) (port : Int) (f : S4.Fr) (l : List Int) : Int := if S4.chkF f l = 0 then (if f.t = true ∧ (svc p port f.v).2 = true then 0 else 7) else whyE (S4.chkF f l)
def clsS (p : Pv) (port : Int) (f : S4.Fr) (l : List Int) : Int := if S4.chkF f l = 0 ∧ f.t = true ∧ (svc p port f.v).2 = true then (svc p port f.v).1 else 0
theorem cls_1 {p : Pv} {port : Int} {f : S4.Fr} {l : List Int} (h : ¬ S4.chkF f l = 0) : clsS p port f l = 0 ∧ clsW p port f l = whyE (S4.chkF f l) := ⟨if_neg (fun c => h c.1), if_neg h⟩
theorem cls_2 {p : Pv} {port : Int} {f : S4.Fr} {l : List Int} (h : S4.chkF f l = 0) (ht : f.t = false) : clsS p port f l = 0 ∧ clsW p port f l = 7 := ⟨if_neg (fun c => by rw [ht] at c; cases c.2.1), by unfold clsW; rw [if_pos h, ht, if_neg (fun c => by cases c.1)]⟩
theorem cls_3 {p : Pv} {port : Int} {f : S4.Fr} {l : List Int} (h : S4.chkF f l = 0) (hs : (svc p port f.v).2 = false) : clsS p port f l = 0 ∧ clsW p port f l = 7 := ⟨if_neg (fun c => by rw [hs] at c; cases c.2.2), by unfold clsW; rw [if_pos h, hs, if_neg (fun c => by cases c.2)]⟩
theorem cls_4 {p : Pv} {port : Int} {f : S4.Fr} {l : List Int} (h : S4.chkF f l = 0) (ht : f.t = true) (hs : (svc p port f.v).2 = true) : clsS p port f l = (svc p port f.v).1 ∧ clsW p port f l = 0 := ⟨if_pos ⟨h, ht, hs⟩, by unfold clsW; rw [if_pos h, if_pos ⟨ht, hs⟩]⟩
set_option maxHeartbeats 2000000 in
theorem cls_any (x : Pr) (p : Pv) (port : Int) (f : S4.Fr) (z : Value) (l : List Int) (w : World) (h : IsPv w x p) (hs : S4.Src w z l) (hb : ∀ x ∈ l, 0 ≤ x ∧ x ≤ 255) (hf : f.ok) :
    Calls Try.prog 12 #[.agg x.cs, .int .i64 port, .agg (S4.fcs f z)] w fun r w' => r = .returned (.tuple #[.int .i64 (clsS p port f l), .int .i64 (clsW p port f l)]) ∧ Below w.heap.size w w' := by
  obtain ⟨W1, hW1, r1, b1, z1⟩ := PrAt.new w x
  obtain ⟨V, hV, r2, b2, z2⟩ := FrAt.new W1 f z
  obtain ⟨E, hE⟩ : ∃ e, S4.chkF f l = e := ⟨_, rfl⟩
  obtain ⟨S, hS⟩ : ∃ e, (svc p port f.v).1 = e := ⟨_, rfl⟩
  obtain ⟨O, hO⟩ : ∃ e, (svc p port f.v).2 = e := ⟨_, rfl⟩
  obtain ⟨T, hT⟩ : ∃ e, f.t = e := ⟨_, rfl⟩
  obtain ⟨AS, hAS⟩ : ∃ e, clsS p port f l = e := ⟨_, rfl⟩
  obtain ⟨AW, hAW⟩ : ∃ e, clsW p port f l = e := ⟨_, rfl⟩
  have EQ : Hid (S4.chkF f l = E ∧ (svc p port f.v).1 = S ∧ (svc p port f.v).2 = O ∧ f.t = T ∧ clsS p port f l = AS ∧ clsW p port f l = AW) := ⟨hE, hS, hO, hT, hAS, hAW⟩
  rw [hAS, hAW]
  have B0 : Below w.heap.size w V := below_over b1 b2
  have H : Hid (PrAt V w.heap.size x ∧ FrAt V W1.heap.size f z ∧ Below w.heap.size w V ∧ IsPv V x p) := ⟨r1.below b2, r2, B0, h.below B0⟩
  have C1 : Hid (Calls Try.prog 35 #[.agg (S4.fcs f z)] V fun r w' => r = .returned (.int .i64 E) ∧ Below V.heap.size V w') := by rw [← hE]; exact S4.check_fr f z l V (hs.below B0) hb hf
  have C2 : Hid (∀ W, Calls Try.prog 33 #[.int .i64 E] W fun r w' => r = .returned (.int .i64 (whyE E)) ∧ Below W.heap.size W w') := reason_any E
  have C3 : Hid (∀ W, Below V.heap.size V W → Calls Try.prog 36 #[.agg x.cs, .int .i64 port, .int .i64 f.v] W fun r w' => r = .returned (.tuple #[.int .i64 S, .bool O]) ∧ Below W.heap.size W w') := fun W hW => by rw [← hS, ← hO]; exact svc_any x p port f.v W (H.out.2.2.2.below hW)
  have l0 := r2.ld
  clear h hs hb hf r1 r2 b1 b2 z1 z2 hE hS hO hT hAS hAW B0
  go_enter Try.func12, Try.ntmps12
  go_wp2_with fail
  refine C1.out.mono ?_
  rintro _ X1 ⟨rfl, bX1⟩
  go_wp2_with fail
  refine (C2.out _).mono ?_
  rintro _ X2 ⟨rfl, bX2⟩
  have K : Hid (Below V.heap.size V X2 ∧ Below w.heap.size w X2) := ⟨below_over bX1 bX2, below_over H.out.2.2.1 (below_over bX1 bX2)⟩
  clear bX1 bX2 l0
  by_cases he : E = 0
  · subst he
    have w0 : whyE 0 = 0 := rfl
    have c12 := (H.out.2.1.below K.out.1).c12
    rw [EQ.out.2.2.2.1] at c12
    have c15 := (H.out.2.1.below K.out.1).c15
    have l1 := (H.out.1.below K.out.1).ld
    cases T with
    | false =>
      have A : Hid (AS = 0 ∧ AW = 7) := by have k := cls_2 (p := p) (port := port) EQ.out.1 EQ.out.2.2.2.1; exact ⟨EQ.out.2.2.2.2.1.symm.trans k.1, EQ.out.2.2.2.2.2.symm.trans k.2⟩
      go_wp2
      go_returns
      exact ⟨by rw [A.out.1, A.out.2]; exact rfl, K.out.2⟩
    | true =>
      go_wp2_with fail
      refine (C3.out _ K.out.1).mono ?_
      rintro _ X3 ⟨rfl, bX3⟩
      have B3 : Hid (Below w.heap.size w X3) := below_over K.out.2 bX3
      clear bX3
      cases O with
      | false =>
        have A : Hid (AS = 0 ∧ AW = 7) := by have k := cls_3 EQ.out.1 EQ.out.2.2.1; exact ⟨EQ.out.2.2.2.2.1.symm.trans k.1, EQ.out.2.2.2.2.2.symm.trans k.2⟩
        go_wp2
        go_returns
        exact ⟨by rw [A.out.1, A.out.2]; exact rfl, B3.out⟩
      | true =>
        have A : Hid (AS = S ∧ AW = 0) := by have k := cls_4 EQ.out.1 EQ.out.2.2.2.1 EQ.out.2.2.1; exact ⟨(EQ.out.2.2.2.2.1.symm.trans k.1).trans EQ.out.2.1, EQ.out.2.2.2.2.2.symm.trans k.2⟩
        go_wp2
        go_returns
        exact ⟨by rw [A.out.1, A.out.2]; exact rfl, B3.out⟩
  · obtain ⟨Y, hY⟩ : ∃ e, whyE E = e := ⟨_, rfl⟩
    have y0 : (Y != 0) = true := by
      have : ¬ Y = 0 := by rw [← hY, why_zero]; exact he
      simp [this]
    have A : Hid (AS = 0 ∧ AW = Y) := by have k := cls_1 (p := p) (port := port) (f := f) (l := l) (by rw [EQ.out.1]; exact he); rw [EQ.out.1, hY] at k; exact ⟨EQ.out.2.2.2.2.1.symm.trans k.1, EQ.out.2.2.2.2.2.symm.trans k.2⟩
    rw [hY]
    clear he hY
    go_wp2
    go_returns
    exact ⟨by rw [A.out.1, A.out.2]; exact rfl, K.out.2⟩
set_option maxHeartbeats 2000000 in
theorem rcls_any (x : Pr) (p : Pv) (port : Int) (f : S4.Fr) (z : Value) (l : List Int) (w : World) (h : IsPv w x p) (hs : S4.Src w z l) (hb : ∀ x ∈ l, 0 ≤ x ∧ x ≤ 255) (hf : f.ok) :
    Calls Try.prog 13 #[.agg x.cs, .int .i64 port, .agg (S4.fcs f z)] w fun r w' => r = .returned (.tuple #[.int .i64 (clsS p port f l), .int .i64 (clsW p port f l)]) ∧ Below w.heap.size w w' := by
  obtain ⟨W1, hW1, r1, b1, z1⟩ := PrAt.new w x
  obtain ⟨V, hV, r2, b2, z2⟩ := FrAt.new W1 f z
  obtain ⟨E, hE⟩ : ∃ e, S4.chkF f l = e := ⟨_, rfl⟩
  obtain ⟨S, hS⟩ : ∃ e, (svc p port f.v).1 = e := ⟨_, rfl⟩
  obtain ⟨O, hO⟩ : ∃ e, (svc p port f.v).2 = e := ⟨_, rfl⟩
  obtain ⟨T, hT⟩ : ∃ e, f.t = e := ⟨_, rfl⟩
  obtain ⟨AS, hAS⟩ : ∃ e, clsS p port f l = e := ⟨_, rfl⟩
  obtain ⟨AW, hAW⟩ : ∃ e, clsW p port f l = e := ⟨_, rfl⟩
  have EQ : Hid (S4.chkF f l = E ∧ (svc p port f.v).1 = S ∧ (svc p port f.v).2 = O ∧ f.t = T ∧ clsS p port f l = AS ∧ clsW p port f l = AW) := ⟨hE, hS, hO, hT, hAS, hAW⟩
  rw [hAS, hAW]
  have B0 : Below w.heap.size w V := below_over b1 b2
  have H : Hid (PrAt V w.heap.size x ∧ FrAt V W1.heap.size f z ∧ Below w.heap.size w V ∧ IsPv V x p) := ⟨r1.below b2, r2, B0, h.below B0⟩
  have C1 : Hid (Calls Try.prog 30 #[.agg (S4.fcs f z)] V fun r w' => r = .returned (.int .i64 E) ∧ Below V.heap.size V w') := by rw [← hE]; exact S4.checkref_any f z l V (hs.below B0) hb hf
  have C2 : Hid (∀ W, Calls Try.prog 34 #[.int .i64 E] W fun r w' => r = .returned (.int .i64 (whyE E)) ∧ Below W.heap.size W w') := rreason_any E
  have C3 : Hid (∀ W, Below V.heap.size V W → Calls Try.prog 22 #[.agg x.cs, .int .i64 port, .int .i64 f.v] W fun r w' => r = .returned (.tuple #[.int .i64 S, .bool O]) ∧ Below W.heap.size W w') := fun W hW => by rw [← hS, ← hO]; exact rsvc_any x p port f.v W (H.out.2.2.2.below hW)
  have l0 := r2.ld
  clear h hs hb hf r1 r2 b1 b2 z1 z2 hE hS hO hT hAS hAW B0
  go_enter Try.func13, Try.ntmps13
  go_wp2_with fail
  refine C1.out.mono ?_
  rintro _ X1 ⟨rfl, bX1⟩
  go_wp2_with fail
  refine (C2.out _).mono ?_
  rintro _ X2 ⟨rfl, bX2⟩
  have K : Hid (Below V.heap.size V X2 ∧ Below w.heap.size w X2) := ⟨below_over bX1 bX2, below_over H.out.2.2.1 (below_over bX1 bX2)⟩
  clear bX1 bX2 l0
  by_cases he : E = 0
  · subst he
    have w0 : whyE 0 = 0 := rfl
    have c12 := (H.out.2.1.below K.out.1).c12
    rw [EQ.out.2.2.2.1] at c12
    have c15 := (H.out.2.1.below K.out.1).c15
    have l1 := (H.out.1.below K.out.1).ld
    go_wp2_with fail
    refine (C3.out _ K.out.1).mono ?_
    rintro _ X3 ⟨rfl, bX3⟩
    have B3 : Hid (Below w.heap.size w X3) := below_over K.out.2 bX3
    have d12 := ((H.out.2.1.below K.out.1).below bX3).c12
    rw [EQ.out.2.2.2.1] at d12
    clear bX3 c12 c15 l1
    cases T with
    | false =>
      have A : Hid (AS = 0 ∧ AW = 7) := by have k := cls_2 (p := p) (port := port) EQ.out.1 EQ.out.2.2.2.1; exact ⟨EQ.out.2.2.2.2.1.symm.trans k.1, EQ.out.2.2.2.2.2.symm.trans k.2⟩
      go_wp2
      go_returns
      exact ⟨by rw [A.out.1, A.out.2]; exact rfl, B3.out⟩
    | true =>
      cases O with
      | false =>
        have A : Hid (AS = 0 ∧ AW = 7) := by have k := cls_3 EQ.out.1 EQ.out.2.2.1; exact ⟨EQ.out.2.2.2.2.1.symm.trans k.1, EQ.out.2.2.2.2.2.symm.trans k.2⟩
        go_wp2
        go_returns
        exact ⟨by rw [A.out.1, A.out.2]; exact rfl, B3.out⟩
      | true =>
        have A : Hid (AS = S ∧ AW = 0) := by have k := cls_4 EQ.out.1 EQ.out.2.2.2.1 EQ.out.2.2.1; exact ⟨(EQ.out.2.2.2.2.1.symm.trans k.1).trans EQ.out.2.1, EQ.out.2.2.2.2.2.symm.trans k.2⟩
        go_wp2
        go_returns
        exact ⟨by rw [A.out.1, A.out.2]; exact rfl, B3.out⟩
  · obtain ⟨Y, hY⟩ : ∃ e, whyE E = e := ⟨_, rfl⟩
    have y0 : (Y != 0) = true := by
      have : ¬ Y = 0 := by rw [← hY, why_zero]; exact he
      simp [this]
    have A : Hid (AS = 0 ∧ AW = Y) := by have k := cls_1 (p := p) (port := port) (f := f) (l := l) (by rw [EQ.out.1]; exact he); rw [EQ.out.1, hY] at k; exact ⟨EQ.out.2.2.2.2.1.symm.trans k.1, EQ.out.2.2.2.2.2.symm.trans k.2⟩
    rw [hY]
    clear he hY
    go_wp2
    go_returns
    exact ⟨by rw [A.out.1, A.out.2]; exact rfl, K.out.2⟩
end

section
set_option linter.unusedVariables false
set_option maxRecDepth 4000
set_option linter.unusedSimpArgs false
open Go.RowKit
attribute [local go_sem ↓] ldP stP ldMc stMc ldFr stFr ldBf stBf stSb

/-- Ports of a service: few, none twice. -/
def Okp (p : Pv) : Prop := p.ms.length ≤ 100 ∧ ∀ s, (att p s).Nodup ∧ ∀ y ∈ att p s, 0 ≤ y ∧ y ≤ 1000
theorem nd_take {l : List Int} (h : l.Nodup) : ∀ i y, l[i]? = some y → (l.take i).any (fun t => t == y) = false := by
  intro i y hy
  rw [List.any_eq_false]
  intro t ht e
  have e : t = y := by simpa using e
  subst e
  obtain ⟨j, hj, hjt⟩ := List.getElem_of_mem ht
  rw [List.length_take] at hj
  rw [List.getElem_take] at hjt
  have hp := List.pairwise_iff_getElem.1 h
  have hil := (List.getElem?_eq_some_iff.1 hy)
  obtain ⟨hi, hiy⟩ := hil
  exact hp j i (by omega) hi (by omega) (by rw [hjt, hiy])
theorem att_len (p : Pv) (s : Int) : (att p s).length ≤ p.ms.length := by
  unfold att
  rw [List.length_map]
  exact List.length_filter_le _ _
theorem Okp.no {p : Pv} (h : Okp p) (q s : Int) : (noL q (att p s)).Nodup ∧ ∀ y ∈ noL q (att p s), 0 ≤ y ∧ y ≤ 1000 := ⟨(h.2 s).1.filter _, fun y hy => (h.2 s).2 y ((List.mem_filter.1 hy).1)⟩
def dpW (p : Pv) (f : S4.Bf) (l : List Int) : Int := if S4.chkB f l = 0 then (if att p f.i = [] then 7 else 0) else whyE (S4.chkB f l)
def dpL (p : Pv) (f : S4.Bf) (l : List Int) : List Mb := if S4.chkB f l = 0 then cpL (FD f l) p f.i (att p f.i) else []
theorem dp_1 {p : Pv} {f : S4.Bf} {l : List Int} (h : ¬ S4.chkB f l = 0) : dpW p f l = whyE (S4.chkB f l) ∧ dpL p f l = [] := ⟨if_neg h, if_neg h⟩
theorem dp_2 {p : Pv} {f : S4.Bf} {l : List Int} (h : S4.chkB f l = 0) (ha : att p f.i = []) : dpW p f l = 7 ∧ dpL p f l = [] := ⟨by unfold dpW; rw [if_pos h, if_pos ha], by unfold dpL; rw [if_pos h, ha]; exact rfl⟩
theorem dp_3 {p : Pv} {f : S4.Bf} {l : List Int} (h : S4.chkB f l = 0) (ha : ¬ att p f.i = []) : dpW p f l = 0 ∧ dpL p f l = cpL (FD f l) p f.i (att p f.i) := ⟨by unfold dpW; rw [if_pos h, if_neg ha], if_pos h⟩
set_option maxHeartbeats 4000000 in
theorem decap_any (x : Pr) (p : Pv) (f : S4.Bf) (z : Value) (l : List Int) (w : World) (h : IsPv w x p) (hk : Okp p) (hs : S4.Src w z l) (hb : ∀ x ∈ l, 0 ≤ x ∧ x ≤ 255) (hf : f.ok) :
    Calls Try.prog 23 #[.agg x.cs, .agg (S4.bcs f z)] w fun r w' => (∃ v, r = .returned (.tuple #[v, .int .i64 (dpW p f l)]) ∧ IsCy w' v (dpL p f l)) ∧ Below w.heap.size w w' := by
  obtain ⟨W1, hW1, r1, b1, z1⟩ := PrAt.new w x
  obtain ⟨V, hV, r2, b2, z2⟩ := BfAt.new W1 f z
  have B0 : Below w.heap.size w V := below_over b1 b2
  obtain ⟨E, hE⟩ : ∃ e, S4.chkB f l = e := ⟨_, rfl⟩
  obtain ⟨A, hA⟩ : ∃ e, att p f.i = e := ⟨_, rfl⟩
  obtain ⟨AW, hAW⟩ : ∃ e, dpW p f l = e := ⟨_, rfl⟩
  obtain ⟨AL, hAL⟩ : ∃ e, dpL p f l = e := ⟨_, rfl⟩
  have EQ : Hid (S4.chkB f l = E ∧ att p f.i = A ∧ dpW p f l = AW ∧ dpL p f l = AL) := ⟨hE, hA, hAW, hAL⟩
  have H : Hid (PrAt V w.heap.size x ∧ BfAt V W1.heap.size f z ∧ Below w.heap.size w V ∧ IsPv V x p) := ⟨r1.below b2, r2, B0, h.below B0⟩
  have HX : Hid (S4.Src V z l ∧ (∀ x ∈ l, 0 ≤ x ∧ x ≤ 255) ∧ f.ok ∧ Okp p) := ⟨hs.below B0, hb, hf, hk⟩
  have C1 : Hid (Calls Try.prog 49 #[.agg (S4.bcs f z)] V fun r w' => r = .returned (.int .i64 E) ∧ Below V.heap.size V w') := by rw [← hE]; exact S4.bcheck_any f z l V (hs.below B0) hb hf
  have C2 : Hid (∀ W, Calls Try.prog 33 #[.int .i64 E] W fun r w' => r = .returned (.int .i64 (whyE E)) ∧ Below W.heap.size W w') := reason_any E
  have C3 : Hid (∀ W, Below V.heap.size V W → Calls Try.prog 50 #[.agg x.cs, .int .i64 f.i] W fun r w' => (∃ v, r = .returned v ∧ Own eI w' W.heap.size v A) ∧ Below W.heap.size W w') := fun W hW => by rw [← hA]; exact att_any x p f.i W (H.out.2.2.2.below hW) HX.out.2.2.2.1
  have l0 := r2.ld
  rw [hAW, hAL]
  clear h hk hs hb hf r1 r2 b1 b2 z1 z2 hE hA hAW hAL B0
  go_enter Try.func23, Try.ntmps23
  go_wp2_with fail
  refine C1.out.mono ?_
  rintro _ X1 ⟨rfl, bX1⟩
  go_wp2_with fail
  refine (C2.out _).mono ?_
  rintro _ X2 ⟨rfl, bX2⟩
  have K : Hid (Below V.heap.size V X2 ∧ Below w.heap.size w X2) := ⟨below_over bX1 bX2, below_over H.out.2.2.1 (below_over bX1 bX2)⟩
  clear bX1 bX2 l0 C1
  by_cases he : E = 0
  · subst he
    have w0 : whyE 0 = 0 := rfl
    have l1 := (H.out.1.below K.out.1).ld
    have c1 := (H.out.2.1.below K.out.1).c18
    go_wp2_with fail
    refine (C3.out _ K.out.1).mono ?_
    rintro _ X3 ⟨⟨v, rfl, oA⟩, b3⟩
    obtain ⟨a, c, rfl, sA, _⟩ := oA.form
    have K3 : Hid (Below V.heap.size V X3 ∧ Below w.heap.size w X3 ∧ SlAt eI X3 a A.length c A) := ⟨below_over K.out.1 b3, below_over K.out.2 b3, sA⟩
    obtain ⟨n, hn⟩ : ∃ e, A.length = e := ⟨_, rfl⟩
    have HN : Hid (A.length = n) := hn
    have hnn := sA.int
    rw [hn] at K3 hnn
    rw [hn]
    clear oA sA b3 hn l1 c1
    by_cases hA : n = 0
    · subst hA
      have G : Hid (AW = 7 ∧ AL = []) := by
        have k := dp_2 EQ.out.1 (by rw [EQ.out.2.1]; exact List.eq_nil_of_length_eq_zero HN.out)
        rw [EQ.out.2.2.1, EQ.out.2.2.2] at k
        exact k
      go_wp2
      go_returns
      exact ⟨⟨.slice none 0 0, by rw [G.out.1]; exact rfl, by rw [G.out.2]; exact IsCy.nil _⟩, K3.out.2.1⟩
    · have e0 : ((n : Int) == 0) = false := by simp; omega
      have G : Hid (AW = 0 ∧ AL = cpL (FD f l) p f.i A) := by
        have k := dp_3 EQ.out.1 (by rw [EQ.out.2.1]; intro e; have := HN.out; rw [e] at this; exact hA this.symm)
        rw [EQ.out.2.2.1, EQ.out.2.2.2, EQ.out.2.1] at k
        exact k
      have l1 := (H.out.1.below K3.out.1).ld
      have c1 := (H.out.2.1.below K3.out.1).c18
      have CC : Hid (Calls Try.prog 53 #[.agg x.cs, .int .i64 f.i, .slice a n c, .func (.func 51) #[] #[.pointer (some ⟨W1.heap.size, 0, none⟩)]] X3 fun r w' => (∃ v, r = .returned v ∧ IsCy w' v (cpL (FD f l) p f.i A)) ∧ Below X3.heap.size X3 w') := by
        have k := HX.out.2.2.2.2 f.i
        rw [EQ.out.2.1] at k
        exact cpd_any x p f.i a n c A f z l W1.heap.size X3 (H.out.2.2.2.below K3.out.1) K3.out.2.2 (nd_take k.1) k.2 (by have := att_len p f.i; rw [EQ.out.2.1, HN.out] at this; have := HX.out.2.2.2.1; omega) (H.out.2.1.below K3.out.1) (HX.out.1.below K3.out.1) HX.out.2.1 HX.out.2.2.1
      clear hA
      go_wp2_with fail
      refine CC.out.mono ?_
      rintro _ X4 ⟨⟨v, rfl, iv⟩, b4⟩
      have K4 : Hid (IsCy X4 v (cpL (FD f l) p f.i A) ∧ Below w.heap.size w X4) := ⟨iv, below_over K3.out.2.1 b4⟩
      clear iv b4 l1 c1
      go_wp2
      go_returns
      exact ⟨⟨v, by rw [G.out.1]; exact rfl, by rw [G.out.2]; exact K4.out.1⟩, K4.out.2⟩
  · obtain ⟨Y, hY⟩ : ∃ e, whyE E = e := ⟨_, rfl⟩
    have y0 : (Y != 0) = true := by
      have : ¬ Y = 0 := by rw [← hY, why_zero]; exact he
      simp [this]
    have G : Hid (AW = Y ∧ AL = []) := by
      have k := dp_1 (p := p) (f := f) (l := l) (by rw [EQ.out.1]; exact he)
      rw [EQ.out.2.2.1, EQ.out.2.2.2, EQ.out.1, hY] at k
      exact k
    rw [hY]
    clear he hY
    go_wp2
    go_returns
    exact ⟨⟨.slice none 0 0, by rw [G.out.1]; exact rfl, by rw [G.out.2]; exact IsCy.nil _⟩, K.out.2⟩

def loL (p : Pv) (port : Int) (f : S4.Fr) (l : List Int) : List Mb := if clsW p port f l = 0 then cpL (FL f l) p (clsS p port f l) (noL port (att p (clsS p port f l))) else []
def loW (p : Pv) (port : Int) (f : S4.Fr) (l : List Int) : Int := if clsW p port f l = 0 then (if loL p port f l = [] then 14 else 0) else clsW p port f l
theorem lo_1 {p : Pv} {port : Int} {f : S4.Fr} {l : List Int} (h : ¬ clsW p port f l = 0) : loW p port f l = clsW p port f l ∧ loL p port f l = [] := ⟨if_neg h, if_neg h⟩
theorem lo_2 {p : Pv} {port : Int} {f : S4.Fr} {l : List Int} (h : clsW p port f l = 0) : loW p port f l = (if loL p port f l = [] then 14 else 0) ∧ loL p port f l = cpL (FL f l) p (clsS p port f l) (noL port (att p (clsS p port f l))) := ⟨if_pos h, if_pos h⟩
theorem inAt (W : World) (q : Int) : ∃ V, W.alloc (.cells #[.int .i64 q] 3) = V ∧ RvAt V W.heap.size 3 #[.int .i64 q] ∧ Below W.heap.size W V ∧ V.heap.size = W.heap.size + 1 := ⟨_, rfl, RvAt.new W _ _, (Below.refl _ _).alloc (Nat.le_refl _) _, by simp⟩
set_option maxHeartbeats 4000000 in
theorem local_any (x : Pr) (p : Pv) (port : Int) (f : S4.Fr) (z : Value) (l : List Int) (w : World) (h : IsPv w x p) (hk : Okp p) (hs : S4.Src w z l) (hb : ∀ x ∈ l, 0 ≤ x ∧ x ≤ 255) (hf : f.ok) :
    Calls Try.prog 28 #[.agg x.cs, .int .i64 port, .agg (S4.fcs f z)] w fun r w' => (∃ v, r = .returned (.tuple #[v, .int .i64 (loW p port f l)]) ∧ IsCy w' v (loL p port f l)) ∧ Below w.heap.size w w' := by
  obtain ⟨W1, hW1, r1, b1, z1⟩ := PrAt.new w x
  obtain ⟨W2, hW2, r2, b2, z2⟩ := inAt W1 port
  obtain ⟨V, hV, r3, b3, z3⟩ := FrAt.new W2 f z
  have B0 : Below w.heap.size w V := below_over b1 (below_over b2 b3)
  obtain ⟨S, hS⟩ : ∃ e, clsS p port f l = e := ⟨_, rfl⟩
  obtain ⟨Y, hY⟩ : ∃ e, clsW p port f l = e := ⟨_, rfl⟩
  obtain ⟨A, hA⟩ : ∃ e, att p S = e := ⟨_, rfl⟩
  obtain ⟨AW, hAW⟩ : ∃ e, loW p port f l = e := ⟨_, rfl⟩
  obtain ⟨AL, hAL⟩ : ∃ e, loL p port f l = e := ⟨_, rfl⟩
  have EQ : Hid (clsS p port f l = S ∧ clsW p port f l = Y ∧ att p S = A ∧ loW p port f l = AW ∧ loL p port f l = AL) := ⟨hS, hY, hA, hAW, hAL⟩
  have H : Hid (PrAt V w.heap.size x ∧ FrAt V W2.heap.size f z ∧ Below w.heap.size w V ∧ IsPv V x p ∧ RvAt V W1.heap.size 3 #[.int .i64 port] ∧ W1.heap.size < V.heap.size) := ⟨r1.below (below_over b2 b3), r3, B0, h.below B0, r2.below b3, by omega⟩
  have HX : Hid (S4.Src V z l ∧ (∀ x ∈ l, 0 ≤ x ∧ x ≤ 255) ∧ f.ok ∧ Okp p) := ⟨hs.below B0, hb, hf, hk⟩
  have C1 : Hid (Calls Try.prog 12 #[.agg x.cs, .int .i64 port, .agg (S4.fcs f z)] V fun r w' => r = .returned (.tuple #[.int .i64 S, .int .i64 Y]) ∧ Below V.heap.size V w') := by rw [← hS, ← hY]; exact cls_any x p port f z l V (h.below B0) (hs.below B0) hb hf
  have C3 : Hid (∀ W, Below V.heap.size V W → Calls Try.prog 50 #[.agg x.cs, .int .i64 S] W fun r w' => (∃ v, r = .returned v ∧ Own eI w' W.heap.size v A) ∧ Below W.heap.size W w') := fun W hW => by rw [← hA]; exact att_any x p S W (H.out.2.2.2.1.below hW) HX.out.2.2.2.1
  have l0 := r1.below (below_over b2 b3)
  have l0 := l0.ld
  have l1 := r3.ld
  have c1 := (r2.below b3).cell 0 _ rfl
  rw [hAW, hAL]
  clear h hk hs hb hf r1 r2 r3 b1 b2 b3 z1 z2 z3 hS hY hA hAW hAL B0
  go_enter Try.func28, Try.ntmps28
  go_wp2_with fail
  refine C1.out.mono ?_
  rintro _ X2 ⟨rfl, bX2⟩
  have K : Hid (Below V.heap.size V X2 ∧ Below w.heap.size w X2) := ⟨bX2, below_over H.out.2.2.1 bX2⟩
  clear bX2 l0 l1 c1 C1
  by_cases he : Y = 0
  · subst he
    have l1 := (H.out.1.below K.out.1).ld
    go_wp2_with fail
    refine (C3.out _ K.out.1).mono ?_
    rintro _ X3 ⟨⟨v, rfl, oA⟩, b3⟩
    have K3 : Hid (Below V.heap.size V X3 ∧ Below w.heap.size w X3 ∧ X2.heap.size ≤ X3.heap.size) := ⟨below_over K.out.1 b3, below_over K.out.2 b3, b3.size⟩
    have CD : Hid (Calls Try.prog 55 #[v, .func (.func 56) #[] #[.pointer (some ⟨W1.heap.size, 0, none⟩)]] X3 fun r w' => (∃ u, r = .returned u ∧ SlV eI w' u (noL port A)) ∧ Below X2.heap.size X3 w') := del_any X2.heap.size v A port W1.heap.size X3 oA b3.size (by have := att_len p S; rw [EQ.out.2.2.1] at this; have := HX.out.2.2.2.1; omega) (by have := H.out.2.2.2.2.2; have := K.out.1.size; omega) (H.out.2.2.2.2.1.below K3.out.1)
    clear oA b3 l1
    go_wp2_with fail
    refine CD.out.mono ?_
    rintro _ X4 ⟨⟨u, rfl, sU⟩, b4⟩
    obtain ⟨a, n, c, rfl, sA⟩ := sU
    have K4 : Hid (Below V.heap.size V X4 ∧ Below w.heap.size w X4 ∧ SlAt eI X4 a n c (noL port A)) := ⟨K3.out.1.trans (b4.mono K.out.1.size), K3.out.2.1.trans (b4.mono K.out.2.size), sA⟩
    have hnn := sA.int
    clear sA b4 CD
    have l1 := (H.out.1.below K4.out.1).ld
    have CC : Hid (Calls Try.prog 53 #[.agg x.cs, .int .i64 S, .slice a n c, .func (.func 57) #[] #[.pointer (some ⟨W2.heap.size, 0, none⟩)]] X4 fun r w' => (∃ v, r = .returned v ∧ IsCy w' v (cpL (FL f l) p S (noL port A))) ∧ Below X4.heap.size X4 w') := by
      have k := HX.out.2.2.2.no port S
      rw [EQ.out.2.2.1] at k
      exact cpl_any x p S a n c (noL port A) f z l W2.heap.size X4 (H.out.2.2.2.1.below K4.out.1) K4.out.2.2 (nd_take k.1) k.2 (by
        have h1 := att_len p S
        rw [EQ.out.2.2.1] at h1
        have h2 : (noL port A).length ≤ A.length := List.length_filter_le _ _
        rw [K4.out.2.2.len] at h2
        have := HX.out.2.2.2.1
        omega) (H.out.2.1.below K4.out.1) (HX.out.1.below K4.out.1) HX.out.2.1 HX.out.2.2.1
    go_wp2_with fail
    refine CC.out.mono ?_
    rintro _ X5 ⟨⟨v, rfl, iv⟩, b5⟩
    have G : Hid (AW = (if AL = [] then 14 else 0) ∧ AL = cpL (FL f l) p S (noL port A)) := by
      have k := lo_2 EQ.out.2.1
      rw [EQ.out.2.2.2.1, EQ.out.2.2.2.2, EQ.out.1, EQ.out.2.2.1] at k
      exact k
    rw [← G.out.2] at iv
    have K5 : Hid (IsCy X5 v AL ∧ Below w.heap.size w X5) := ⟨iv, below_over K4.out.2.1 b5⟩
    obtain ⟨rr, ⟨a2, n2, c2, rfl, s2⟩, al⟩ := iv
    have hnn2 := s2.int
    have HN : Hid (AL.length = n2) := by rw [← al.len]; exact s2.len
    clear s2 al b5 l1 CC
    by_cases hA : n2 = 0
    · subst hA
      have e0 : AL = [] := List.eq_nil_of_length_eq_zero HN.out
      have G2 : Hid (AW = 14 ∧ AL = []) := ⟨by rw [G.out.1, if_pos e0], e0⟩
      clear e0
      go_wp2
      go_returns
      exact ⟨⟨.slice none 0 0, by rw [G2.out.1]; exact rfl, by rw [G2.out.2]; exact IsCy.nil _⟩, K5.out.2⟩
    · have e0 : ((n2 : Int) == 0) = false := by simp; omega
      have G2 : Hid (AW = 0) := by rw [G.out.1, if_neg (fun e => hA (by rw [← HN.out, e]; rfl))]; exact rfl
      clear hA
      go_wp2
      go_returns
      exact ⟨⟨_, by rw [G2.out]; exact rfl, K5.out.1⟩, K5.out.2⟩
  · have y0 : (Y != 0) = true := by simp [he]
    have G : Hid (AW = Y ∧ AL = []) := by
      have k := lo_1 (p := p) (port := port) (f := f) (l := l) (by rw [EQ.out.2.1]; exact he)
      rw [EQ.out.2.2.2.1, EQ.out.2.2.2.2, EQ.out.2.1] at k
      exact k
    clear he
    go_wp2
    go_returns
    exact ⟨⟨.slice none 0 0, by rw [G.out.1]; exact rfl, by rw [G.out.2]; exact IsCy.nil _⟩, K.out.2⟩
end

end Go.Proofs.Ytgjagedngdhdaaa
