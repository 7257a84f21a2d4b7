/-
  What is asked by the definition: the walks of Ports and Carrier, each for every input.
-/
import Derived.Test.YtcejfkkhmlebdaaBas
namespace Go.Proofs.Ytcejfkkhmlebdaa
set_option linter.unusedVariables false
set_option maxRecDepth 4000
set_option linter.unusedSimpArgs false
open Go.RowKit
attribute [local go_sem ↓] ldM stM ldC stC ldB stB ldP stP apI bsI
attribute [local go_sem] bsI_is bsI2_is

set_option maxHeartbeats 2000000 in
theorem rpts_any (x : Pr) (p : Pv) (vid : Int) (w : World) (h : IsPv w x p) :
    Calls Try.prog 12 #[.agg x.cs, .int .i64 vid] w fun r w' => ∃ v, r = .returned (.tuple #[v, .bool (pts p vid).isSome]) ∧ SlV eI w' v ((pts p vid).getD []) ∧ Below w.heap.size w w' := by
  obtain ⟨rr, ⟨a, n, c, hv, hs⟩, hm⟩ := h.b
  obtain ⟨W, hW, r0, bW, zW⟩ := PrAt.new w x
  have c7 := r0.b
  rw [hv] at c7
  have hnn := hs.int
  obtain ⟨R, hR⟩ : ∃ z, pts p vid = z := ⟨_, rfl⟩
  have H : Hid (SlAt eB W a n c rr ∧ Mem W rr p.bs ∧ rr.length = n ∧ Below w.heap.size w W ∧ PrAt W w.heap.size x ∧ x.b = .slice a n c) := ⟨hs.below bW, hm.below bW, hs.len, bW, r0, hv⟩
  have HR : Hid (pts p vid = R) := hR
  rw [hR]
  clear hs bW zW r0 h hv hR hm
  go_enter Try.func12, Try.ntmps12
  go_wp2_with fail
  go_loopw [6] (fun v wr => ∃ i : Nat, i ≤ n ∧ v = .int .i64 i ∧ R = ptl vid (p.bs.drop i) ∧ Below W.heap.size W wr) (fun v _ => n - (intOf v).toNat)
  case atStart => exact ⟨0, by omega, rfl, HR.out.symm, Below.refl _ _⟩
  case round =>
    obtain ⟨i, hi, rfl, hf, hB⟩ := hrel
    have J : Hid (R = ptl vid (p.bs.drop i) ∧ Below W.heap.size W wr) := ⟨hf, hB⟩
    have hi0 : (0 : Int) ≤ (i : Int) := by omega
    clear c7
    have c7 := (H.out.2.2.2.2.1.below hB).b
    rw [H.out.2.2.2.2.2] at c7
    by_cases hit : i < n
    · have hi1 : (i : Int) < (n : Int) := by omega
      obtain ⟨b, o, rfl⟩ := H.out.1.some' (by omega)
      obtain ⟨y, z, hy, hz, hvz, hps⟩ := H.out.2.1.get (i := i) (by rw [← H.out.2.1.len, H.out.2.2.1]; exact hit)
      have l0 := lB0 (H.out.1.below hB) hy
      have l1 := lB1 (H.out.1.below hB) hy
      have HX : Hid (p.bs[i]? = some z ∧ y.v = z.v ∧ SlAt eI W y.a y.n y.c z.ps) := ⟨hz, hvz, hps⟩
      clear hf hB hy hz hvz hps
      by_cases e0 : y.v = vid
      · have q0 : (y.v == vid) = true := by simp [e0]
        have E : Hid (R = some z.ps) := by rw [J.out.1, ptl_yes HX.out.1 (by rw [← HX.out.2.1]; exact e0)]; exact rfl
        clear e0
        go_wp2
        go_returns
        exact ⟨_, by rw [E.out]; rfl, by rw [E.out]; exact (HX.out.2.2.below J.out.2).slv, below_over H.out.2.2.2.1 J.out.2⟩
      · have q0 : (y.v == vid) = false := by simp [e0]
        have E : Hid (R = ptl vid (p.bs.drop (i + 1))) := by rw [J.out.1, ptl_no HX.out.1 (by rw [← HX.out.2.1]; exact e0)]; exact rfl
        clear e0
        go_wp2
        go_roundw
        case rel => exact ⟨i + 1, by omega, by go_num, E.out, J.out.2⟩
        case measure => simp [intOf]; omega
    · have hin : i = n := by omega
      subst hin
      have hi1 : ¬ (i : Int) < (i : Int) := by omega
      have E : Hid (R = none) := by rw [J.out.1, ptl_end (by rw [← H.out.2.1.len, H.out.2.2.1]; exact Nat.le_refl _)]; exact rfl
      clear hf hB
      go_wp2
      go_returns
      exact ⟨_, by rw [E.out]; rfl, by rw [E.out]; exact SlV.none' _, below_over H.out.2.2.2.1 J.out.2⟩
set_option maxHeartbeats 2000000 in
theorem rcar_any (x : Pr) (p : Pv) (isid : Int) (w : World) (h : IsPv w x p) :
    Calls Try.prog 35 #[.agg x.cs, .int .i64 isid] w fun r w' => r = .returned (.tuple #[.int .i64 (car p isid).1, .bool (car p isid).2]) ∧ Below w.heap.size w w' := by
  obtain ⟨a, n, c, hv, hs⟩ := h.c
  obtain ⟨W, hW, r0, bW, zW⟩ := PrAt.new w x
  have c7 := r0.c
  rw [hv] at c7
  have hnn := hs.int
  obtain ⟨R, hR⟩ : ∃ z, car p isid = z := ⟨_, rfl⟩
  have H : Hid (SlAt eC W a n c p.cs ∧ p.cs.length = n ∧ Below w.heap.size w W ∧ PrAt W w.heap.size x ∧ x.c = .slice a n c) := ⟨hs.below bW, hs.len, bW, r0, hv⟩
  have HR : Hid (car p isid = R) := hR
  rw [hR]
  clear hs bW zW r0 h hv hR
  go_enter Try.func35, Try.ntmps35
  go_wp2_with fail
  go_loopw [6] (fun v13 wr => ∃ i : Nat, i ≤ n ∧ v13 = .int .i64 i ∧ R = fnd (fun m => m.s == isid) (fun m => m.v) (p.cs.drop i) ∧ Below W.heap.size W wr) (fun v13 _ => n - (intOf v13).toNat)
  case atStart => exact ⟨0, by omega, rfl, HR.out.symm, Below.refl _ _⟩
  case round =>
    obtain ⟨i, hi, rfl, hf, hB⟩ := hrel
    have J : Hid (R = fnd (fun m => m.s == isid) (fun m => m.v) (p.cs.drop i) ∧ Below W.heap.size W wr) := ⟨hf, hB⟩
    have hi0 : (0 : Int) ≤ (i : Int) := by omega
    clear c7
    have c7 := (H.out.2.2.2.1.below hB).c
    rw [H.out.2.2.2.2] at c7
    by_cases hit : i < n
    · have hi1 : (i : Int) < (n : Int) := by omega
      obtain ⟨b, o, rfl⟩ := H.out.1.some' (by omega)
      obtain ⟨y, hx⟩ := lt_nth (l := p.cs) (i := i) (by rw [H.out.2.1]; exact hit)
      have l0 := lC0 (H.out.1.below hB) hx
      have l1 := lC1 (H.out.1.below hB) hx
      have HX : Hid (p.cs[i]? = some y) := hx
      clear hf hB hx
      by_cases e0 : y.s = isid
      · have q0 : (y.s == isid) = true := by simp [e0]
        have Q0 : Hid (y.s = isid) := e0
        clear e0
        have E : Hid (R = (y.v, true)) := by rw [J.out.1, fnd_yes HX.out (by simp [Q0.out])]; exact rfl
        go_wp2
        go_returns
        exact ⟨by rw [E.out]; rfl, below_over H.out.2.2.1 J.out.2⟩
      · have q0 : (y.s == isid) = false := by simp [e0]
        have Q0 : Hid (¬ y.s = isid) := e0
        clear e0
        have E : Hid (R = fnd (fun m => m.s == isid) (fun m => m.v) (p.cs.drop (i + 1))) := by rw [J.out.1, fnd_no HX.out (by simp [Q0.out])]; exact rfl
        go_wp2
        go_roundw
        case rel => exact ⟨i + 1, by omega, by go_num, E.out, J.out.2⟩
        case measure => simp [intOf]; omega
    · have hin : i = n := by omega
      subst hin
      have hi1 : ¬ (i : Int) < (i : Int) := by omega
      have E : Hid (R = (0, false)) := by rw [J.out.1, fnd_end (by rw [H.out.2.1]; exact Nat.le_refl _)]; exact rfl
      clear hf hB
      go_wp2
      go_returns
      exact ⟨by rw [E.out]; rfl, below_over H.out.2.2.1 J.out.2⟩
end Go.Proofs.Ytcejfkkhmlebdaa
