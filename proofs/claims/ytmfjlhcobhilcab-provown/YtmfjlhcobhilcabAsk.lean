/-
  What is asked of what is provisioned: the walks of Service, VIDOf and Carrier, for every input.
-/
import Derived.Test.YtmfjlhcobhilcabPln
namespace Go.Proofs.Ytmfjlhcobhilcab
set_option linter.unusedVariables false
set_option maxRecDepth 4000
set_option linter.unusedSimpArgs false
open Go.RowKit
attribute [local go_sem ↓] ldM stM ldC stC ldB stB ldP stP apI bsI
attribute [local go_sem] bsI_is

set_option maxHeartbeats 2000000 in
theorem svc_any (x : Pr) (p : Pv) (port vid : Int) (w : World) (h : IsPv w x p) :
    Calls Try.prog 30 #[.agg x.cs, .int .i64 port, .int .i64 vid] w fun r w' => r = .returned (.tuple #[.int .i64 (svc p port vid).1, .bool (svc p port vid).2]) ∧ Below w.heap.size w w' := by
  obtain ⟨a, n, c, hv, hs⟩ := h.m
  obtain ⟨W, hW, r0, bW, zW⟩ := PrAt.new w x
  have c7 := r0.m
  rw [hv] at c7
  have hnn := hs.int
  obtain ⟨R, hR⟩ : ∃ z, svc p port vid = z := ⟨_, rfl⟩
  have H : Hid (SlAt eM W a n c p.ms ∧ p.ms.length = n ∧ Below w.heap.size w W ∧ PrAt W w.heap.size x ∧ x.m = .slice a n c) := ⟨hs.below bW, hs.len, bW, r0, hv⟩
  have HR : Hid (svc p port vid = R) := hR
  rw [hR]
  clear hs bW zW r0 h hv hR
  go_enter Try.func30, Try.ntmps30
  go_wp2_with fail
  go_loopw [13] (fun v13 wr => ∃ i : Nat, i ≤ n ∧ v13 = .int .i64 i ∧ R = fnd (fun m => m.p == port && m.v == vid) (fun m => m.s) (p.ms.drop i) ∧ Below W.heap.size W wr) (fun v13 _ => n - (intOf v13).toNat)
  case atStart => exact ⟨0, by omega, rfl, HR.out.symm, Below.refl _ _⟩
  case round =>
    obtain ⟨i, hi, rfl, hf, hB⟩ := hrel
    have J : Hid (R = fnd (fun m => m.p == port && m.v == vid) (fun m => m.s) (p.ms.drop i) ∧ Below W.heap.size W wr) := ⟨hf, hB⟩
    have hi0 : (0 : Int) ≤ (i : Int) := by omega
    clear c7
    have c7 := (H.out.2.2.2.1.below hB).m
    rw [H.out.2.2.2.2] at c7
    by_cases hit : i < n
    · have hi1 : (i : Int) < (n : Int) := by omega
      obtain ⟨b, o, rfl⟩ := H.out.1.some' (by omega)
      obtain ⟨y, hx⟩ := lt_nth (l := p.ms) (i := i) (by rw [H.out.2.1]; exact hit)
      have l1 := lM (H.out.1.below hB) hx
      obtain ⟨V, sV, mV, bV⟩ := MpAt.put wr y
      have k0 := mV.c0
      have k1 := mV.c1
      have k2 := mV.c2
      have HX : Hid (p.ms[i]? = some y) := hx
      clear hf hB hx mV
      by_cases e0 : y.p = port
      · have q0 : (y.p == port) = true := by simp [e0]
        have Q0 : Hid (y.p = port) := e0
        clear e0
        by_cases e1 : y.v = vid
        · have q1 : (y.v == vid) = true := by simp [e1]
          have Q1 : Hid (y.v = vid) := e1
          clear e1
          have E : Hid (R = (y.s, true)) := by rw [J.out.1, fnd_yes HX.out (by simp [Q0.out, Q1.out])]; exact rfl
          go_wp2
          go_returns
          exact ⟨by rw [E.out]; rfl, below_over H.out.2.2.1 (below_over J.out.2 bV)⟩
        · have q1 : (y.v == vid) = false := by simp [e1]
          have Q1 : Hid (¬ y.v = vid) := e1
          clear e1
          have E : Hid (R = fnd (fun m => m.p == port && m.v == vid) (fun m => m.s) (p.ms.drop (i + 1))) := by rw [J.out.1, fnd_no HX.out (by simp [Q1.out])]; exact rfl
          go_wp2
          go_roundw
          case rel => exact ⟨i + 1, by omega, by go_num, E.out, (below_over J.out.2 bV)⟩
          case measure => simp [intOf]; omega
      · have q0 : (y.p == port) = false := by simp [e0]
        have Q0 : Hid (¬ y.p = port) := e0
        clear e0
        have E : Hid (R = fnd (fun m => m.p == port && m.v == vid) (fun m => m.s) (p.ms.drop (i + 1))) := by rw [J.out.1, fnd_no HX.out (by simp [Q0.out])]; exact rfl
        go_wp2
        go_roundw
        case rel => exact ⟨i + 1, by omega, by go_num, E.out, (below_over J.out.2 bV)⟩
        case measure => simp [intOf]; omega
    · have hin : i = n := by omega
      subst hin
      have hi1 : ¬ (i : Int) < (i : Int) := by omega
      have E : Hid (R = (0, false)) := by rw [J.out.1, fnd_end (by rw [H.out.2.1]; exact Nat.le_refl _)]; exact rfl
      clear hf hB
      go_wp2
      go_returns
      exact ⟨by rw [E.out]; rfl, below_over H.out.2.2.1 J.out.2⟩
set_option maxHeartbeats 2000000 in
theorem vof_any (x : Pr) (p : Pv) (port isid : Int) (w : World) (h : IsPv w x p) :
    Calls Try.prog 73 #[.agg x.cs, .int .i64 port, .int .i64 isid] w fun r w' => r = .returned (.tuple #[.int .i64 (vof p port isid).1, .bool (vof p port isid).2]) ∧ Below w.heap.size w w' := by
  obtain ⟨a, n, c, hv, hs⟩ := h.m
  obtain ⟨W, hW, r0, bW, zW⟩ := PrAt.new w x
  have c7 := r0.m
  rw [hv] at c7
  have hnn := hs.int
  obtain ⟨R, hR⟩ : ∃ z, vof p port isid = z := ⟨_, rfl⟩
  have H : Hid (SlAt eM W a n c p.ms ∧ p.ms.length = n ∧ Below w.heap.size w W ∧ PrAt W w.heap.size x ∧ x.m = .slice a n c) := ⟨hs.below bW, hs.len, bW, r0, hv⟩
  have HR : Hid (vof p port isid = R) := hR
  rw [hR]
  clear hs bW zW r0 h hv hR
  go_enter Try.func73, Try.ntmps73
  go_wp2_with fail
  go_loopw [13] (fun v13 wr => ∃ i : Nat, i ≤ n ∧ v13 = .int .i64 i ∧ R = fnd (fun m => m.p == port && m.s == isid) (fun m => m.v) (p.ms.drop i) ∧ Below W.heap.size W wr) (fun v13 _ => n - (intOf v13).toNat)
  case atStart => exact ⟨0, by omega, rfl, HR.out.symm, Below.refl _ _⟩
  case round =>
    obtain ⟨i, hi, rfl, hf, hB⟩ := hrel
    have J : Hid (R = fnd (fun m => m.p == port && m.s == isid) (fun m => m.v) (p.ms.drop i) ∧ Below W.heap.size W wr) := ⟨hf, hB⟩
    have hi0 : (0 : Int) ≤ (i : Int) := by omega
    clear c7
    have c7 := (H.out.2.2.2.1.below hB).m
    rw [H.out.2.2.2.2] at c7
    by_cases hit : i < n
    · have hi1 : (i : Int) < (n : Int) := by omega
      obtain ⟨b, o, rfl⟩ := H.out.1.some' (by omega)
      obtain ⟨y, hx⟩ := lt_nth (l := p.ms) (i := i) (by rw [H.out.2.1]; exact hit)
      have l1 := lM (H.out.1.below hB) hx
      obtain ⟨V, sV, mV, bV⟩ := MpAt.put wr y
      have k0 := mV.c0
      have k1 := mV.c1
      have k2 := mV.c2
      have HX : Hid (p.ms[i]? = some y) := hx
      clear hf hB hx mV
      by_cases e0 : y.p = port
      · have q0 : (y.p == port) = true := by simp [e0]
        have Q0 : Hid (y.p = port) := e0
        clear e0
        by_cases e1 : y.s = isid
        · have q1 : (y.s == isid) = true := by simp [e1]
          have Q1 : Hid (y.s = isid) := e1
          clear e1
          have E : Hid (R = (y.v, true)) := by rw [J.out.1, fnd_yes HX.out (by simp [Q0.out, Q1.out])]; exact rfl
          go_wp2
          go_returns
          exact ⟨by rw [E.out]; rfl, below_over H.out.2.2.1 (below_over J.out.2 bV)⟩
        · have q1 : (y.s == isid) = false := by simp [e1]
          have Q1 : Hid (¬ y.s = isid) := e1
          clear e1
          have E : Hid (R = fnd (fun m => m.p == port && m.s == isid) (fun m => m.v) (p.ms.drop (i + 1))) := by rw [J.out.1, fnd_no HX.out (by simp [Q1.out])]; exact rfl
          go_wp2
          go_roundw
          case rel => exact ⟨i + 1, by omega, by go_num, E.out, (below_over J.out.2 bV)⟩
          case measure => simp [intOf]; omega
      · have q0 : (y.p == port) = false := by simp [e0]
        have Q0 : Hid (¬ y.p = port) := e0
        clear e0
        have E : Hid (R = fnd (fun m => m.p == port && m.s == isid) (fun m => m.v) (p.ms.drop (i + 1))) := by rw [J.out.1, fnd_no HX.out (by simp [Q0.out])]; exact rfl
        go_wp2
        go_roundw
        case rel => exact ⟨i + 1, by omega, by go_num, E.out, (below_over J.out.2 bV)⟩
        case measure => simp [intOf]; omega
    · have hin : i = n := by omega
      subst hin
      have hi1 : ¬ (i : Int) < (i : Int) := by omega
      have E : Hid (R = (0, false)) := by rw [J.out.1, fnd_end (by rw [H.out.2.1]; exact Nat.le_refl _)]; exact rfl
      clear hf hB
      go_wp2
      go_returns
      exact ⟨by rw [E.out]; rfl, below_over H.out.2.2.1 J.out.2⟩
set_option maxHeartbeats 2000000 in
theorem car_any (x : Pr) (p : Pv) (isid : Int) (w : World) (h : IsPv w x p) :
    Calls Try.prog 75 #[.agg x.cs, .int .i64 isid] w fun r w' => r = .returned (.tuple #[.int .i64 (car p isid).1, .bool (car p isid).2]) ∧ Below w.heap.size w w' := by
  obtain ⟨a, n, c, hv, hs⟩ := h.c
  obtain ⟨W, hW, r0, bW, zW⟩ := PrAt.new w x
  have c7 := r0.c
  rw [hv] at c7
  have hnn := hs.int
  obtain ⟨R, hR⟩ : ∃ z, car p isid = z := ⟨_, rfl⟩
  have H : Hid (SlAt eC W a n c p.cs ∧ p.cs.length = n ∧ Below w.heap.size w W ∧ PrAt W w.heap.size x ∧ x.c = .slice a n c) := ⟨hs.below bW, hs.len, bW, r0, hv⟩
  have HR : Hid (car p isid = R) := hR
  rw [hR]
  clear hs bW zW r0 h hv hR
  go_enter Try.func75, Try.ntmps75
  go_wp2_with fail
  go_loopw [11] (fun v13 wr => ∃ i : Nat, i ≤ n ∧ v13 = .int .i64 i ∧ R = fnd (fun m => m.s == isid) (fun m => m.v) (p.cs.drop i) ∧ Below W.heap.size W wr) (fun v13 _ => n - (intOf v13).toNat)
  case atStart => exact ⟨0, by omega, rfl, HR.out.symm, Below.refl _ _⟩
  case round =>
    obtain ⟨i, hi, rfl, hf, hB⟩ := hrel
    have J : Hid (R = fnd (fun m => m.s == isid) (fun m => m.v) (p.cs.drop i) ∧ Below W.heap.size W wr) := ⟨hf, hB⟩
    have hi0 : (0 : Int) ≤ (i : Int) := by omega
    clear c7
    have c7 := (H.out.2.2.2.1.below hB).c
    rw [H.out.2.2.2.2] at c7
    by_cases hit : i < n
    · have hi1 : (i : Int) < (n : Int) := by omega
      obtain ⟨b, o, rfl⟩ := H.out.1.some' (by omega)
      obtain ⟨y, hx⟩ := lt_nth (l := p.cs) (i := i) (by rw [H.out.2.1]; exact hit)
      have l1 := lC (H.out.1.below hB) hx
      obtain ⟨V, sV, mV, bV⟩ := CrAt.put wr y
      have k0 := mV.c0
      have k1 := mV.c1
      have HX : Hid (p.cs[i]? = some y) := hx
      clear hf hB hx mV
      by_cases e0 : y.s = isid
      · have q0 : (y.s == isid) = true := by simp [e0]
        have Q0 : Hid (y.s = isid) := e0
        clear e0
        have E : Hid (R = (y.v, true)) := by rw [J.out.1, fnd_yes HX.out (by simp [Q0.out])]; exact rfl
        go_wp2
        go_returns
        exact ⟨by rw [E.out]; rfl, below_over H.out.2.2.1 (below_over J.out.2 bV)⟩
      · have q0 : (y.s == isid) = false := by simp [e0]
        have Q0 : Hid (¬ y.s = isid) := e0
        clear e0
        have E : Hid (R = fnd (fun m => m.s == isid) (fun m => m.v) (p.cs.drop (i + 1))) := by rw [J.out.1, fnd_no HX.out (by simp [Q0.out])]; exact rfl
        go_wp2
        go_roundw
        case rel => exact ⟨i + 1, by omega, by go_num, E.out, (below_over J.out.2 bV)⟩
        case measure => simp [intOf]; omega
    · have hin : i = n := by omega
      subst hin
      have hi1 : ¬ (i : Int) < (i : Int) := by omega
      have E : Hid (R = (0, false)) := by rw [J.out.1, fnd_end (by rw [H.out.2.1]; exact Nat.le_refl _)]; exact rfl
      clear hf hB
      go_wp2
      go_returns
      exact ⟨by rw [E.out]; rfl, below_over H.out.2.2.1 J.out.2⟩
set_option maxHeartbeats 2000000 in
theorem att_any (x : Pr) (p : Pv) (isid : Int) (w : World) (h : IsPv w x p) (hl : p.ms.length ≤ 100) :
    Calls Try.prog 56 #[.agg x.cs, .int .i64 isid] w fun r w' => (∃ v, r = .returned v ∧ Own eI w' w.heap.size v (att p isid)) ∧ Below w.heap.size w w' := by
  obtain ⟨a, n, c, hv, hs⟩ := h.m
  obtain ⟨W, hW, r0, bW, zW⟩ := PrAt.new w x
  have c7 := r0.m
  rw [hv] at c7
  have hnn := hs.int
  obtain ⟨R, hR⟩ : ∃ z, att p isid = z := ⟨_, rfl⟩
  have H : Hid (SlAt eM W a n c p.ms ∧ p.ms.length = n ∧ Below w.heap.size w W ∧ PrAt W w.heap.size x ∧ x.m = .slice a n c ∧ n ≤ 100) := ⟨hs.below bW, hs.len, bW, r0, hv, by rw [← hs.len]; exact hl⟩
  have HR : Hid (att p isid = R) := hR
  rw [hR]
  clear hs bW zW r0 h hv hR hl
  go_enter Try.func56, Try.ntmps56
  go_wp2_with fail
  go_loopw [5, 11] (fun u v wr => ∃ (i : Nat) (acc : List Int), i ≤ n ∧ v = .int .i64 i ∧ R = acc ++ ((p.ms.drop i).filter (fun m => m.s == isid)).map (fun m => m.p) ∧ acc.length ≤ i ∧ Own eI wr W.heap.size u acc ∧ Below W.heap.size W wr) (fun u v _ => n - (intOf v).toNat)
  case atStart => exact ⟨0, [], by omega, rfl, HR.out.symm, Nat.le_refl _, Own.nil _ _, Below.refl _ _⟩
  case round =>
    obtain ⟨i, acc, hi, rfl, hf, ha, hO, hB⟩ := hrel
    have J : Hid (R = acc ++ ((p.ms.drop i).filter (fun m => m.s == isid)).map (fun m => m.p) ∧ acc.length ≤ i ∧ Own eI wr W.heap.size u5 acc ∧ Below W.heap.size W wr) := ⟨hf, ha, hO, hB⟩
    have hi0 : (0 : Int) ≤ (i : Int) := by omega
    clear c7
    have c7 := (H.out.2.2.2.1.below hB).m
    rw [H.out.2.2.2.2.1] at c7
    by_cases hit : i < n
    · have hi1 : (i : Int) < (n : Int) := by omega
      obtain ⟨b, o, rfl⟩ := H.out.1.some' (by omega)
      obtain ⟨y, hx⟩ := lt_nth (l := p.ms) (i := i) (by rw [H.out.2.1]; exact hit)
      have l1 := lM (H.out.1.below hB) hx
      obtain ⟨V, sV, mV, bV⟩ := MpAt.put wr y
      have k0 := mV.c0
      have k1 := mV.c1
      have k2 := mV.c2
      have G : Hid (Own eI V W.heap.size u5 acc ∧ Below W.heap.size W V) := ⟨hO.below bV, below_over hB bV⟩
      have HX : Hid (p.ms[i]? = some y) := hx
      by_cases e0 : y.s = isid
      · have q0 : (y.s == isid) = true := by simp [e0]
        have E : Hid (R = (acc ++ [y.p]) ++ ((p.ms.drop (i + 1)).filter (fun m => m.s == isid)).map (fun m => m.p)) := by rw [J.out.1, fil_yes HX.out q0, List.append_assoc]; exact rfl
        obtain ⟨v', X, aX, oX, bX⟩ := nI G.out.1 G.out.2.size (by have := H.out.2.2.2.2.2; have := J.out.2.1; omega) y.p
        clear e0 hf ha hO hB hx mV bV
        go_wp2
        go_roundw
        case rel => exact ⟨i + 1, _, by omega, by go_num, E.out, by have := J.out.2.1; simp; omega, oX, G.out.2.trans bX⟩
        case measure => simp [intOf]; omega
      · have q0 : (y.s == isid) = false := by simp [e0]
        have E : Hid (R = acc ++ ((p.ms.drop (i + 1)).filter (fun m => m.s == isid)).map (fun m => m.p)) := by rw [J.out.1, fil_no HX.out q0]; exact rfl
        clear e0 hf ha hO hB hx mV bV
        go_wp2
        go_roundw
        case rel => exact ⟨i + 1, acc, by omega, by go_num, E.out, by have := J.out.2.1; omega, G.out.1, G.out.2⟩
        case measure => simp [intOf]; omega
    · have hin : i = n := by omega
      subst hin
      have hi1 : ¬ (i : Int) < (i : Int) := by omega
      have E : Hid (R = acc) := by rw [J.out.1, fil_end (by rw [H.out.2.1]; exact Nat.le_refl _), List.append_nil]; exact rfl
      clear hf ha hO hB
      go_wp2
      go_ret
      exact ⟨⟨_, rfl, by rw [E.out]; exact J.out.2.2.1.mono H.out.2.2.1.size⟩, below_over H.out.2.2.1 J.out.2.2.2⟩
set_option maxHeartbeats 2000000 in
theorem svs_any (x : Pr) (p : Pv) (vid : Int) (w : World) (h : IsPv w x p) (hl : p.cs.length ≤ 100) :
    Calls Try.prog 60 #[.agg x.cs, .int .i64 vid] w fun r w' => (∃ v, r = .returned v ∧ Own eI w' w.heap.size v (svs p vid)) ∧ Below w.heap.size w w' := by
  obtain ⟨a, n, c, hv, hs⟩ := h.c
  obtain ⟨W, hW, r0, bW, zW⟩ := PrAt.new w x
  have c7 := r0.c
  rw [hv] at c7
  have hnn := hs.int
  obtain ⟨R, hR⟩ : ∃ z, svs p vid = z := ⟨_, rfl⟩
  have H : Hid (SlAt eC W a n c p.cs ∧ p.cs.length = n ∧ Below w.heap.size w W ∧ PrAt W w.heap.size x ∧ x.c = .slice a n c ∧ n ≤ 100) := ⟨hs.below bW, hs.len, bW, r0, hv, by rw [← hs.len]; exact hl⟩
  have HR : Hid (svs p vid = R) := hR
  rw [hR]
  clear hs bW zW r0 h hv hR hl
  go_enter Try.func60, Try.ntmps60
  go_wp2_with fail
  go_loopw [5, 11] (fun u v wr => ∃ (i : Nat) (acc : List Int), i ≤ n ∧ v = .int .i64 i ∧ R = acc ++ ((p.cs.drop i).filter (fun m => m.v == vid)).map (fun m => m.s) ∧ acc.length ≤ i ∧ Own eI wr W.heap.size u acc ∧ Below W.heap.size W wr) (fun u v _ => n - (intOf v).toNat)
  case atStart => exact ⟨0, [], by omega, rfl, HR.out.symm, Nat.le_refl _, Own.nil _ _, Below.refl _ _⟩
  case round =>
    obtain ⟨i, acc, hi, rfl, hf, ha, hO, hB⟩ := hrel
    have J : Hid (R = acc ++ ((p.cs.drop i).filter (fun m => m.v == vid)).map (fun m => m.s) ∧ acc.length ≤ i ∧ Own eI wr W.heap.size u5 acc ∧ Below W.heap.size W wr) := ⟨hf, ha, hO, hB⟩
    have hi0 : (0 : Int) ≤ (i : Int) := by omega
    clear c7
    have c7 := (H.out.2.2.2.1.below hB).c
    rw [H.out.2.2.2.2.1] at c7
    by_cases hit : i < n
    · have hi1 : (i : Int) < (n : Int) := by omega
      obtain ⟨b, o, rfl⟩ := H.out.1.some' (by omega)
      obtain ⟨y, hx⟩ := lt_nth (l := p.cs) (i := i) (by rw [H.out.2.1]; exact hit)
      have l1 := lC (H.out.1.below hB) hx
      obtain ⟨V, sV, mV, bV⟩ := CrAt.put wr y
      have k0 := mV.c0
      have k1 := mV.c1
      have G : Hid (Own eI V W.heap.size u5 acc ∧ Below W.heap.size W V) := ⟨hO.below bV, below_over hB bV⟩
      have HX : Hid (p.cs[i]? = some y) := hx
      by_cases e0 : y.v = vid
      · have q0 : (y.v == vid) = true := by simp [e0]
        have E : Hid (R = (acc ++ [y.s]) ++ ((p.cs.drop (i + 1)).filter (fun m => m.v == vid)).map (fun m => m.s)) := by rw [J.out.1, fil_yes HX.out q0, List.append_assoc]; exact rfl
        obtain ⟨v', X, aX, oX, bX⟩ := nI G.out.1 G.out.2.size (by have := H.out.2.2.2.2.2; have := J.out.2.1; omega) y.s
        clear e0 hf ha hO hB hx mV bV
        go_wp2
        go_roundw
        case rel => exact ⟨i + 1, _, by omega, by go_num, E.out, by have := J.out.2.1; simp; omega, oX, G.out.2.trans bX⟩
        case measure => simp [intOf]; omega
      · have q0 : (y.v == vid) = false := by simp [e0]
        have E : Hid (R = acc ++ ((p.cs.drop (i + 1)).filter (fun m => m.v == vid)).map (fun m => m.s)) := by rw [J.out.1, fil_no HX.out q0]; exact rfl
        clear e0 hf ha hO hB hx mV bV
        go_wp2
        go_roundw
        case rel => exact ⟨i + 1, acc, by omega, by go_num, E.out, by have := J.out.2.1; omega, G.out.1, G.out.2⟩
        case measure => simp [intOf]; omega
    · have hin : i = n := by omega
      subst hin
      have hi1 : ¬ (i : Int) < (i : Int) := by omega
      have E : Hid (R = acc) := by rw [J.out.1, fil_end (by rw [H.out.2.1]; exact Nat.le_refl _), List.append_nil]; exact rfl
      clear hf ha hO hB
      go_wp2
      go_ret
      exact ⟨⟨_, rfl, by rw [E.out]; exact J.out.2.2.1.mono H.out.2.2.1.size⟩, below_over H.out.2.2.1 J.out.2.2.2⟩
end Go.Proofs.Ytmfjlhcobhilcab
