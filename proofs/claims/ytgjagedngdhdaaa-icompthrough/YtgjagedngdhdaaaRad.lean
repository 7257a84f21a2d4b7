/-
  What the definition does with a command that adds: walks of addMap, addCarry, each for every input.
-/
import Derived.Test.YtgjagedngdhdaaaRdl
namespace Go.Proofs.Ytgjagedngdhdaaa
set_option linter.unusedVariables false
set_option maxRecDepth 4000
set_option linter.unusedSimpArgs false
open Go.RowKit
attribute [local go_sem ↓] ldM stM ldC stC ldB stB ldP stP apI bsI
attribute [local go_sem] bsI_is bsI2_is

attribute [local go_sem ↓] stIs stKs stMs stCs stBs ldD stD eqgM eqgC neqM neqC eqlM eqlC apM apC apB bsM bsC bsB
attribute [local go_sem] bsM_is bsC_is bsB_is
def insD {α : Type} (d : Bool) (b : α → Bool) (x : α) (l : List α) : List α := if d then l else insR b x l
theorem insD_t {α : Type} {b : α → Bool} {x : α} {l : List α} {i : Nat} {y : α} (h : l[i]? = some y) : insD true b x (l.drop i) = [y] ++ insD true b x (l.drop (i + 1)) := by
  show l.drop i = [y] ++ l.drop (i + 1)
  rw [drop_at h]
  rfl
theorem insD_yes {α : Type} {b : α → Bool} {x : α} {l : List α} {i : Nat} {y : α} (h : l[i]? = some y) (hb : b y = true) : insD false b x (l.drop i) = [x] ++ [y] ++ insD true b x (l.drop (i + 1)) := by
  show insR b x (l.drop i) = [x] ++ [y] ++ l.drop (i + 1)
  rw [drop_at h, insR, if_pos hb]
  rfl
theorem insD_no {α : Type} {b : α → Bool} {x : α} {l : List α} {i : Nat} {y : α} (h : l[i]? = some y) (hb : b y = false) : insD false b x (l.drop i) = [y] ++ insD false b x (l.drop (i + 1)) := by
  show insR b x (l.drop i) = [y] ++ insR b x (l.drop (i + 1))
  rw [drop_at h, insR, if_neg (by rw [hb]; decide)]
  rfl
theorem insD_ef {α : Type} {b : α → Bool} {x : α} {l : List α} {i : Nat} (h : l.length ≤ i) : insD false b x (l.drop i) = [x] := by
  rw [drop_end h]
  rfl
theorem insD_et {α : Type} {b : α → Bool} {x : α} {l : List α} {i : Nat} (h : l.length ≤ i) : insD true b x (l.drop i) = [] := by
  rw [drop_end h]
  rfl
set_option maxHeartbeats 8000000 in
theorem raddM_any (x : Pr) (p : Pv) (y : Mp) (w : World) (h : IsPv w x p) (hz : Sz p) :
    Calls Try.prog 74 #[.agg x.cs, .agg y.cs] w fun r w' => RdT w (whn p { p with ms := insR (ltM y) y p.ms } (refM p y)) r w' := by
  obtain ⟨a, n, c, hv, hs⟩ := h.m
  obtain ⟨ka, kn, kc, kv, ks⟩ := h.k
  obtain ⟨W, V, V0, hW, hV, hU, S0, zW, zV⟩ := RdS.new w x 100 y.cs
  have T0 : Hid (RdS w V0 x 100 y.cs) := S0
  have H : Hid (IsPv w x p ∧ SlAt eM w a n c p.ms ∧ p.ms.length = n ∧ x.m = .slice a n c ∧ Sz p ∧ SlAt eK w ka kn kc p.ks ∧ p.ks.length = kn ∧ x.k = .slice ka kn kc) := ⟨h, hs, hs.len, hv, hz, ks, ks.len, kv⟩
  have hnn := hs.int
  have hkn := ks.int
  have hn100 : n ≤ 100 := by rw [← hs.len]; exact hz.2.1
  obtain ⟨R, hR⟩ : ∃ z, insR (ltM y) y p.ms = z := ⟨_, rfl⟩
  have HR : Hid (R = [] ++ insD false (ltM y) y (p.ms.drop 0) ∧ insR (ltM y) y p.ms = R) := ⟨hR.symm, hR⟩
  clear S0 h hs hv hz ks kv hR
  obtain ⟨⟨sa, sb⟩, e1⟩ : ∃ z, svc p y.p y.v = z := ⟨_, rfl⟩
  obtain ⟨⟨va, vb⟩, e2⟩ : ∃ z, vof p y.p y.s = z := ⟨_, rfl⟩
  obtain ⟨⟨ca, cb⟩, e3⟩ : ∃ z, car p y.s = z := ⟨_, rfl⟩
  have Q1 : Hid (Value.tuple #[.int .i64 (svc p y.p y.v).1, .bool (svc p y.p y.v).2] = Value.tuple #[.int .i64 sa, .bool sb] ∧ (svc p y.p y.v).2 = sb) := by rw [e1]; exact ⟨rfl, rfl⟩
  have Q2 : Hid (Value.tuple #[.int .i64 (vof p y.p y.s).1, .bool (vof p y.p y.s).2] = Value.tuple #[.int .i64 va, .bool vb] ∧ (vof p y.p y.s).2 = vb) := by rw [e2]; exact ⟨rfl, rfl⟩
  have Q3 : Hid (Value.tuple #[.int .i64 (car p y.s).1, .bool (car p y.s).2] = Value.tuple #[.int .i64 ca, .bool cb] ∧ (car p y.s).2 = cb) := by rw [e3]; exact ⟨rfl, rfl⟩
  clear e1 e2 e3
  obtain ⟨t0, h0⟩ : ∃ zz, isV y.v = zz := ⟨_, rfl⟩
  have QV : Hid (isV y.v = t0) := h0
  obtain ⟨t1, h1⟩ : ∃ zz, isS y.s = zz := ⟨_, rfl⟩
  have QS : Hid (isS y.s = t1) := h1
  clear h0 h1
  go_enter Try.func74, Try.ntmps74
  have f0 := T0.out.var.ld
  have f0a := (show MpAt V0 (w.heap.size + 1) y from T0.out.arg).c0
  have f0b := (show MpAt V0 (w.heap.size + 1) y from T0.out.arg).c1
  have f0c := (show MpAt V0 (w.heap.size + 1) y from T0.out.arg).c2
  go_wp2_with fail
  refine (Calls.ret_eq Q1.out.1 (rsvc_any x p y.p y.v V0 (H.out.1.below T0.out.bel))).mono ?_
  rintro _ V1 ⟨rfl, hb⟩
  have T1 : Hid (RdS w V1 x 100 y.cs) := T0.out.below hb
  clear hb f0 f0a f0b f0c
  have f1 := T1.out.var.ld
  have f1a := (show MpAt V1 (w.heap.size + 1) y from T1.out.arg).c0
  have f1b := (show MpAt V1 (w.heap.size + 1) y from T1.out.arg).c1
  have f1c := (show MpAt V1 (w.heap.size + 1) y from T1.out.arg).c2
  go_wp2_with fail
  refine (Calls.ret_eq Q2.out.1 (rvof_any x p y.p y.s V1 (H.out.1.below T1.out.bel))).mono ?_
  rintro _ V2 ⟨rfl, hb⟩
  have T2 : Hid (RdS w V2 x 100 y.cs) := T1.out.below hb
  clear hb f1 f1a f1b f1c
  have f2 := T2.out.var.ld
  have f2a := (show MpAt V2 (w.heap.size + 1) y from T2.out.arg).c0
  have f2b := (show MpAt V2 (w.heap.size + 1) y from T2.out.arg).c1
  have f2c := (show MpAt V2 (w.heap.size + 1) y from T2.out.arg).c2
  go_wp2_with fail
  refine (Calls.ret_eq Q3.out.1 (rcar_any x p y.s V2 (H.out.1.below T2.out.bel))).mono ?_
  rintro _ V3 ⟨rfl, hb⟩
  have T3 : Hid (RdS w V3 x 100 y.cs) := T2.out.below hb
  clear hb f2 f2a f2b f2c
  have f3 := T3.out.var.ld
  have f3a := (show MpAt V3 (w.heap.size + 1) y from T3.out.arg).c0
  have f3b := (show MpAt V3 (w.heap.size + 1) y from T3.out.arg).c1
  have f3c := (show MpAt V3 (w.heap.size + 1) y from T3.out.arg).c2
  go_wp2_with fail
  refine (ret_b (rvid_any y.v V3) QV.out).mono ?_
  rintro _ V4 ⟨rfl, hb⟩
  have T4 : Hid (RdS w V4 x 100 y.cs) := T3.out.below hb
  clear hb f3 f3a f3b f3c
  cases t0
  · skip
    have E0 : refM p y = 1 := by unfold refM; simp [QV.out, QS.out]
    have E : Hid (whn p { p with ms := insR (ltM y) y p.ms } (refM p y) = (p, 1)) := by rw [E0]; exact rfl
    clear E0
    have f4 := T4.out.var.ld
    have f4a := (show MpAt V4 (w.heap.size + 1) y from T4.out.arg).c0
    have f4b := (show MpAt V4 (w.heap.size + 1) y from T4.out.arg).c1
    have f4c := (show MpAt V4 (w.heap.size + 1) y from T4.out.arg).c2
    obtain ⟨Z, sZ, pZ, gZ, bZ⟩ := T4.out.tell H.out.1.one
    have G : Hid (PrAt Z (w.heap.size + 2) x ∧ IsPv Z x p ∧ Below w.heap.size w Z) := ⟨pZ, H.out.1.below bZ, bZ⟩
    clear pZ gZ bZ
    have l9 := T4.out.var.ld
    go_wp2
    exact ret_pe Try.results74 rfl rfl rfl G.out.1 (by show RdT w _ _ _; rw [E.out]; exact ⟨⟨_, rfl, G.out.2.1⟩, G.out.2.2⟩)
  · skip
    have f4 := T4.out.var.ld
    have f4a := (show MpAt V4 (w.heap.size + 1) y from T4.out.arg).c0
    have f4b := (show MpAt V4 (w.heap.size + 1) y from T4.out.arg).c1
    have f4c := (show MpAt V4 (w.heap.size + 1) y from T4.out.arg).c2
    go_wp2_with fail
    refine (ret_b (risid_any y.s V4) QS.out).mono ?_
    rintro _ V5 ⟨rfl, hb⟩
    have T5 : Hid (RdS w V5 x 100 y.cs) := T4.out.below hb
    clear hb f4 f4a f4b f4c
    cases t1
    · skip
      have E0 : refM p y = 1 := by unfold refM; simp [QV.out, QS.out]
      have E : Hid (whn p { p with ms := insR (ltM y) y p.ms } (refM p y) = (p, 1)) := by rw [E0]; exact rfl
      clear E0
      have f5 := T5.out.var.ld
      have f5a := (show MpAt V5 (w.heap.size + 1) y from T5.out.arg).c0
      have f5b := (show MpAt V5 (w.heap.size + 1) y from T5.out.arg).c1
      have f5c := (show MpAt V5 (w.heap.size + 1) y from T5.out.arg).c2
      obtain ⟨Z, sZ, pZ, gZ, bZ⟩ := T5.out.tell H.out.1.one
      have G : Hid (PrAt Z (w.heap.size + 2) x ∧ IsPv Z x p ∧ Below w.heap.size w Z) := ⟨pZ, H.out.1.below bZ, bZ⟩
      clear pZ gZ bZ
      have l9 := T5.out.var.ld
      go_wp2
      exact ret_pe Try.results74 rfl rfl rfl G.out.1 (by show RdT w _ _ _; rw [E.out]; exact ⟨⟨_, rfl, G.out.2.1⟩, G.out.2.2⟩)
    · skip
      have c6 := T5.out.var.k
      rw [H.out.2.2.2.2.2.2.2] at c6
      have c7 := T5.out.var.m
      rw [H.out.2.2.2.1] at c7
      by_cases h2 : y.p < 0
      · have d2 : decide (y.p < 0) = true := by simpa using h2
        have N2 : Hid (hasP p y.p = false) := by unfold hasP; rw [decide_eq_false (by omega)]; exact rfl
        have E0 : refM p y = 5 := by unfold refM; simp [QV.out, QS.out, N2.out]
        have E : Hid (whn p { p with ms := insR (ltM y) y p.ms } (refM p y) = (p, 5)) := by rw [E0]; exact rfl
        clear E0
        have f5 := T5.out.var.ld
        have f5a := (show MpAt V5 (w.heap.size + 1) y from T5.out.arg).c0
        have f5b := (show MpAt V5 (w.heap.size + 1) y from T5.out.arg).c1
        have f5c := (show MpAt V5 (w.heap.size + 1) y from T5.out.arg).c2
        obtain ⟨Z, sZ, pZ, gZ, bZ⟩ := T5.out.tell H.out.1.one
        have G : Hid (PrAt Z (w.heap.size + 2) x ∧ IsPv Z x p ∧ Below w.heap.size w Z) := ⟨pZ, H.out.1.below bZ, bZ⟩
        clear pZ gZ bZ
        have l9 := T5.out.var.ld
        go_wp2
        exact ret_pe Try.results74 rfl rfl rfl G.out.1 (by show RdT w _ _ _; rw [E.out]; exact ⟨⟨_, rfl, G.out.2.1⟩, G.out.2.2⟩)
      · have d2 : decide (y.p < 0) = false := by simpa using h2
        by_cases h3 : (kn : Int) ≤ y.p
        · have d3 : decide (y.p ≥ (kn : Int)) = true := by simpa using h3
          have d3' : decide ((kn : Int) ≤ y.p) = true := by simpa using h3
          have N2 : Hid (hasP p y.p = false) := by unfold hasP; rw [H.out.2.2.2.2.2.2.1, decide_eq_false (p := y.p < (kn : Int)) (by omega), Bool.and_false]; exact rfl
          have E0 : refM p y = 5 := by unfold refM; simp [QV.out, QS.out, N2.out]
          have E : Hid (whn p { p with ms := insR (ltM y) y p.ms } (refM p y) = (p, 5)) := by rw [E0]; exact rfl
          clear E0
          have f5 := T5.out.var.ld
          have f5a := (show MpAt V5 (w.heap.size + 1) y from T5.out.arg).c0
          have f5b := (show MpAt V5 (w.heap.size + 1) y from T5.out.arg).c1
          have f5c := (show MpAt V5 (w.heap.size + 1) y from T5.out.arg).c2
          obtain ⟨Z, sZ, pZ, gZ, bZ⟩ := T5.out.tell H.out.1.one
          have G : Hid (PrAt Z (w.heap.size + 2) x ∧ IsPv Z x p ∧ Below w.heap.size w Z) := ⟨pZ, H.out.1.below bZ, bZ⟩
          clear pZ gZ bZ
          have l9 := T5.out.var.ld
          go_wp2
          exact ret_pe Try.results74 rfl rfl rfl G.out.1 (by show RdT w _ _ _; rw [E.out]; exact ⟨⟨_, rfl, G.out.2.1⟩, G.out.2.2⟩)
        · have d3 : decide (y.p ≥ (kn : Int)) = false := by simpa using h3
          have d3' : decide ((kn : Int) ≤ y.p) = false := by simpa using h3
          have hj0 : (0 : Int) ≤ y.p := by omega
          have hj1 : y.p < (kn : Int) := by omega
          obtain ⟨u, hu⟩ := lt_nth (l := p.ks) (i := y.p.toNat) (by rw [H.out.2.2.2.2.2.2.1]; omega)
          obtain ⟨b2, o2, rfl⟩ := H.out.2.2.2.2.2.1.some' (by omega)
          have c8 := lK (H.out.2.2.2.2.2.1.below T5.out.bel) hu
          have N2 : Hid (hasP p y.p = true) := by unfold hasP; rw [H.out.2.2.2.2.2.2.1, decide_eq_true hj0, decide_eq_true hj1]; exact rfl
          have N3 : Hid (isK p y.p 1 = (u == 1)) := by unfold isK kAt; rw [N2.out, hu]; exact rfl
          clear h2 h3 hu
          by_cases h4 : u = 1
          · subst h4
            cases sb
            · cases vb
              · cases cb
                · skip
                  have E0 : refM p y = 182 := by unfold refM; simp [QV.out, QS.out, N2.out, N3.out, Q1.out.2, Q2.out.2, Q3.out.2]
                  have E : Hid (whn p { p with ms := insR (ltM y) y p.ms } (refM p y) = (p, 182)) := by rw [E0]; exact rfl
                  clear E0
                  have f5 := T5.out.var.ld
                  have f5a := (show MpAt V5 (w.heap.size + 1) y from T5.out.arg).c0
                  have f5b := (show MpAt V5 (w.heap.size + 1) y from T5.out.arg).c1
                  have f5c := (show MpAt V5 (w.heap.size + 1) y from T5.out.arg).c2
                  obtain ⟨Z, sZ, pZ, gZ, bZ⟩ := T5.out.tell H.out.1.one
                  have G : Hid (PrAt Z (w.heap.size + 2) x ∧ IsPv Z x p ∧ Below w.heap.size w Z) := ⟨pZ, H.out.1.below bZ, bZ⟩
                  clear pZ gZ bZ
                  have l9 := T5.out.var.ld
                  go_wp2
                  exact ret_pe Try.results74 rfl rfl rfl G.out.1 (by show RdT w _ _ _; rw [E.out]; exact ⟨⟨_, rfl, G.out.2.1⟩, G.out.2.2⟩)
                · skip
                  by_cases h64 : 64 ≤ n
                  · have d4 : decide ((n : Int) ≥ 64) = true := by simp; omega
                    have d5 : decide ((64 : Int) ≤ (n : Int)) = true := by simp; omega
                    have N4 : Hid (64 ≤ p.ms.length) := by rw [H.out.2.2.1]; exact h64
                    have E0 : refM p y = 3 := by unfold refM; simp [QV.out, QS.out, N2.out, N3.out, Q1.out.2, Q2.out.2, Q3.out.2, N4.out]
                    have E : Hid (whn p { p with ms := insR (ltM y) y p.ms } (refM p y) = (p, 3)) := by rw [E0]; exact rfl
                    clear E0
                    have f5 := T5.out.var.ld
                    have f5a := (show MpAt V5 (w.heap.size + 1) y from T5.out.arg).c0
                    have f5b := (show MpAt V5 (w.heap.size + 1) y from T5.out.arg).c1
                    have f5c := (show MpAt V5 (w.heap.size + 1) y from T5.out.arg).c2
                    obtain ⟨Z, sZ, pZ, gZ, bZ⟩ := T5.out.tell H.out.1.one
                    have G : Hid (PrAt Z (w.heap.size + 2) x ∧ IsPv Z x p ∧ Below w.heap.size w Z) := ⟨pZ, H.out.1.below bZ, bZ⟩
                    clear pZ gZ bZ
                    have l9 := T5.out.var.ld
                    go_wp2
                    exact ret_pe Try.results74 rfl rfl rfl G.out.1 (by show RdT w _ _ _; rw [E.out]; exact ⟨⟨_, rfl, G.out.2.1⟩, G.out.2.2⟩)
                  · have d4 : decide ((n : Int) ≥ 64) = false := by simp; omega
                    have d5 : decide ((64 : Int) ≤ (n : Int)) = false := by simp; omega
                    have N4 : Hid (¬ 64 ≤ p.ms.length) := by rw [H.out.2.2.1]; exact h64
                    have E0 : refM p y = 0 := by unfold refM; simp [QV.out, QS.out, N2.out, N3.out, Q1.out.2, Q2.out.2, Q3.out.2, N4.out]
                    have E : Hid (whn p { p with ms := insR (ltM y) y p.ms } (refM p y) = ({ p with ms := insR (ltM y) y p.ms }, 0)) := by rw [E0]; exact rfl
                    clear E0
                    have EE : Hid (whn p { p with ms := insR (ltM y) y p.ms } (refM p y) = ({ p with ms := insR (ltM y) y p.ms }, 0)) := E.out
                    clear E h64
                    have f5 := T5.out.var.ld
                    have f5a := (show MpAt V5 (w.heap.size + 1) y from T5.out.arg).c0
                    have f5b := (show MpAt V5 (w.heap.size + 1) y from T5.out.arg).c1
                    have f5c := (show MpAt V5 (w.heap.size + 1) y from T5.out.arg).c2
                    go_wp2_with fail
                    clear c6 c7 f5 f5a f5b f5c c8
                    go_loopw [12, 13, 14] (fun u d v wr => ∃ (i : Nat) (acc : List Mp) (D : Bool), i ≤ n ∧ v = .int .i64 i ∧ d = .bool D ∧ R = acc ++ insD D (ltM y) y (p.ms.drop i) ∧ acc.length ≤ i + D.toNat ∧ Own eM wr V5.heap.size u acc ∧ Below V5.heap.size V5 wr) (fun u d v _ => n - (intOf v).toNat)
                    case atStart => exact ⟨0, [], false, by omega, rfl, rfl, HR.out.1, by simp, Own.nil _ _, Below.refl _ _⟩
                    case round =>
                      obtain ⟨i, acc, D, hi, rfl, rfl, hf, ha, hO, hB⟩ := hrel
                      have J : Hid (R = acc ++ insD D (ltM y) y (p.ms.drop i) ∧ acc.length ≤ i + D.toNat ∧ Own eM wr V5.heap.size u12 acc ∧ Below V5.heap.size V5 wr) := ⟨hf, ha, hO, hB⟩
                      have TJ : Hid (RdS w wr x 100 y.cs) := T5.out.below hB
                      have hi0 : (0 : Int) ≤ (i : Int) := by omega
                      have c1 := TJ.out.var.m
                      rw [H.out.2.2.2.1] at c1
                      clear hf ha hO hB
                      by_cases hit : i < n
                      · have hi1 : (i : Int) < (n : Int) := by omega
                        obtain ⟨b, o, rfl⟩ := H.out.2.1.some' (by omega)
                        obtain ⟨z, hz⟩ := lt_nth (l := p.ms) (i := i) (by rw [H.out.2.2.1]; exact hit)
                        have HX : Hid (p.ms[i]? = some z) := hz
                        clear hz
                        cases D
                        · have k0 := fun q : Later wr => ((show MpAt wr (w.heap.size + 1) y from TJ.out.arg).below q.below).ld
                          have k1 := fun q : Later wr => (TJ.out.below q.below).var.m
                          rw [H.out.2.2.2.1] at k1
                          have k2 := fun q : Later wr => lM ((H.out.2.1.below TJ.out.bel).below q.below) HX.out
                          obtain ⟨bb, hbb⟩ : ∃ zz, ltM y z = zz := ⟨_, rfl⟩
                          have PP : Hid (∀ q : Later wr, _) := fun q : Later wr => before_any y z q.val
                          rw [hbb] at PP
                          have HB : Hid (ltM y z = bb) := hbb
                          clear hbb
                          cases bb
                          · have E : Hid (R = (acc ++ [z]) ++ insD false (ltM y) y (p.ms.drop (i + 1))) := by rw [J.out.1, insD_no HX.out HB.out, List.append_assoc]; exact rfl
                            go_wp2_with fail
                            clear c1
                            refine wp_region_later (by kernel_rfl) (by kernel_rfl) ?_
                            repeat (go_big_quiet_step (first | exact rfl | (go_at_call 103; with_reducible exact Calls.later_of (PP.out _))))
                            refine wpQuiet_nil ?_
                            intro _ hw'
                            obtain ⟨q, rfl⟩ := hw'
                            have TQ : Hid (RdS w q.val x 100 y.cs) := TJ.out.below q.below
                            have OQ : Hid (Own eM q.val V5.heap.size u12 acc ∧ Below V5.heap.size V5 q.val) := ⟨J.out.2.2.1.below q.below, below_over J.out.2.2.2 q.below⟩
                            clear k0 k1 k2 PP
                            have c1 := TQ.out.var.m
                            rw [H.out.2.2.2.1] at c1
                            have c2 := lM (H.out.2.1.below TQ.out.bel) HX.out
                            obtain ⟨v1, X1, aX1, oX1, bX1⟩ := nM OQ.out.1 OQ.out.2.size (by have := J.out.2.1; simp at this ⊢; omega) z
                            have OX1 : Hid (Own eM X1 V5.heap.size v1 (acc ++ [z]) ∧ Below V5.heap.size V5 X1) := ⟨oX1, OQ.out.2.trans bX1⟩
                            have TX1 : Hid (RdS w X1 x 100 y.cs) := T5.out.below OX1.out.2
                            clear oX1 bX1
                            go_wp2
                            go_roundw
                            case rel => exact ⟨i + 1, acc ++ [z], false, by omega, by go_num, rfl, E.out, by have := J.out.2.1; simp at this ⊢; omega, OX1.out.1, OX1.out.2⟩
                            case measure => simp [intOf]; omega
                          · have E0 : R = (acc ++ [y] ++ [z]) ++ insD true (ltM y) y (p.ms.drop (i + 1)) := by rw [J.out.1, insD_yes HX.out HB.out]; simp only [List.append_assoc]
                            have E : Hid (R = (acc ++ [y] ++ [z]) ++ insD true (ltM y) y (p.ms.drop (i + 1))) := E0
                            clear E0
                            go_wp2_with fail
                            clear c1
                            refine wp_region_later (by kernel_rfl) (by kernel_rfl) ?_
                            repeat (go_big_quiet_step (first | exact rfl | (go_at_call 103; with_reducible exact Calls.later_of (PP.out _))))
                            refine wpQuiet_nil ?_
                            intro _ hw'
                            obtain ⟨q, rfl⟩ := hw'
                            have TQ : Hid (RdS w q.val x 100 y.cs) := TJ.out.below q.below
                            have OQ : Hid (Own eM q.val V5.heap.size u12 acc ∧ Below V5.heap.size V5 q.val) := ⟨J.out.2.2.1.below q.below, below_over J.out.2.2.2 q.below⟩
                            clear k0 k1 k2 PP
                            have c3 := (show MpAt q.val (w.heap.size + 1) y from TQ.out.arg).ld
                            obtain ⟨v1, X1, aX1, oX1, bX1⟩ := nM OQ.out.1 OQ.out.2.size (by have := J.out.2.1; simp at this ⊢; omega) y
                            have OX1 : Hid (Own eM X1 V5.heap.size v1 (acc ++ [y]) ∧ Below V5.heap.size V5 X1) := ⟨oX1, OQ.out.2.trans bX1⟩
                            have TX1 : Hid (RdS w X1 x 100 y.cs) := T5.out.below OX1.out.2
                            clear oX1 bX1
                            have c1 := TX1.out.var.m
                            rw [H.out.2.2.2.1] at c1
                            have c2 := lM (H.out.2.1.below TX1.out.bel) HX.out
                            obtain ⟨v2, X2, aX2, oX2, bX2⟩ := nM OX1.out.1 OX1.out.2.size (by have := J.out.2.1; simp at this ⊢; omega) z
                            have OX2 : Hid (Own eM X2 V5.heap.size v2 (acc ++ [y] ++ [z]) ∧ Below V5.heap.size V5 X2) := ⟨oX2, OX1.out.2.trans bX2⟩
                            have TX2 : Hid (RdS w X2 x 100 y.cs) := T5.out.below OX2.out.2
                            clear oX2 bX2
                            go_wp2
                            go_roundw
                            case rel => exact ⟨i + 1, acc ++ [y] ++ [z], true, by omega, by go_num, rfl, E.out, by have := J.out.2.1; simp at this ⊢; omega, OX2.out.1, OX2.out.2⟩
                            case measure => simp [intOf]; omega
                        · have E : Hid (R = (acc ++ [z]) ++ insD true (ltM y) y (p.ms.drop (i + 1))) := by rw [J.out.1, insD_t HX.out, List.append_assoc]; exact rfl
                          go_wp2_with fail
                          clear c1
                          refine wp_region_later (by kernel_rfl) (by kernel_rfl) ?_
                          repeat (go_big_quiet_step (first | exact rfl))
                          refine wpQuiet_nil ?_
                          intro _ hw'
                          obtain ⟨q, rfl⟩ := hw'
                          have TQ : Hid (RdS w q.val x 100 y.cs) := TJ.out.below q.below
                          have OQ : Hid (Own eM q.val V5.heap.size u12 acc ∧ Below V5.heap.size V5 q.val) := ⟨J.out.2.2.1.below q.below, below_over J.out.2.2.2 q.below⟩
                          have c1 := TQ.out.var.m
                          rw [H.out.2.2.2.1] at c1
                          have c2 := lM (H.out.2.1.below TQ.out.bel) HX.out
                          obtain ⟨v1, X1, aX1, oX1, bX1⟩ := nM OQ.out.1 OQ.out.2.size (by have := J.out.2.1; simp at this ⊢; omega) z
                          have OX1 : Hid (Own eM X1 V5.heap.size v1 (acc ++ [z]) ∧ Below V5.heap.size V5 X1) := ⟨oX1, OQ.out.2.trans bX1⟩
                          have TX1 : Hid (RdS w X1 x 100 y.cs) := T5.out.below OX1.out.2
                          clear oX1 bX1
                          go_wp2
                          go_roundw
                          case rel => exact ⟨i + 1, acc ++ [z], true, by omega, by go_num, rfl, E.out, by have := J.out.2.1; simp at this ⊢; omega, OX1.out.1, OX1.out.2⟩
                          case measure => simp [intOf]; omega
                      · have hi1 : ¬ (i : Int) < (n : Int) := by omega
                        have E : Hid (whn p { p with ms := insR (ltM y) y p.ms } (refM p y) = ({ p with ms := insR (ltM y) y p.ms }, 0)) := EE.out
                        have LE : Hid (p.ms.length ≤ i) := by rw [H.out.2.2.1]; show _ ≤ _; omega
                        have LI : Hid (i ≤ 100) := by show _ ≤ _; omega
                        clear hit hi
                        obtain ⟨V9, hV9⟩ : ∃ z, wr = z := ⟨_, rfl⟩
                        rw [hV9] at J TJ c1
                        rw [hV9]
                        clear hV9
                        cases D
                        · have c3 := (show MpAt V9 (w.heap.size + 1) y from TJ.out.arg).ld
                          obtain ⟨v1, X1, aX1, oX1, bX1⟩ := nM J.out.2.2.1 J.out.2.2.2.size (by have h1 := J.out.2.1; have h2 := LI.out; simp at h1; omega) y
                          have OX : Hid (Own eM X1 V5.heap.size v1 R) := by rw [J.out.1, insD_ef LE.out]; exact oX1
                          have TX1 : Hid (RdS w X1 x 100 y.cs) := T5.out.below (J.out.2.2.2.trans bX1)
                          clear oX1 bX1
                          obtain ⟨V6, s6, q6, g6⟩ := TX1.out.var.stM v1 OX.out.slv.one
                          have T6 := TX1.out.set q6 g6
                          have b6 : Below w.heap.size w V6 := T6.bel
                          have o6 := OX.out.kept g6 (by have := T5.out.siz; omega)
                          have i6 : IsPv V6 { x with m := v1 } { p with ms := insR (ltM y) y p.ms } := ⟨H.out.1.o, H.out.1.wf, (H.out.1.below b6).k, (show SlV eM V6 v1 (insR (ltM y) y p.ms) from by rw [HR.out.2]; exact o6.slv), (H.out.1.below b6).c, (H.out.1.below b6).b⟩
                          obtain ⟨Z, sZ, pZ, gZ, bZ⟩ := T6.tell i6.one
                          have o7 := o6.kept gZ (by have := T5.out.siz; omega)
                          have G : Hid (PrAt Z (w.heap.size + 2) { x with m := v1 } ∧ IsPv Z { x with m := v1 } { p with ms := insR (ltM y) y p.ms } ∧ Below w.heap.size w Z) := ⟨pZ, ⟨H.out.1.o, H.out.1.wf, (H.out.1.below bZ).k, (show SlV eM Z v1 (insR (ltM y) y p.ms) from by rw [HR.out.2]; exact o7.slv), (H.out.1.below bZ).c, (H.out.1.below bZ).b⟩, bZ⟩
                          have l9 := T6.var.ld
                          clear q6 g6 T6 b6 o6 i6 pZ gZ bZ o7
                          go_wp2
                          exact ret_pe Try.results74 rfl rfl rfl G.out.1 (by show RdT w _ _ _; rw [E.out]; exact ⟨⟨_, rfl, G.out.2.1⟩, G.out.2.2⟩)
                        · have OX : Hid (Own eM V9 V5.heap.size u12 R) := by rw [J.out.1, insD_et LE.out, List.append_nil]; exact J.out.2.2.1
                          obtain ⟨V6, s6, q6, g6⟩ := TJ.out.var.stM u12 OX.out.slv.one
                          have T6 := TJ.out.set q6 g6
                          have b6 : Below w.heap.size w V6 := T6.bel
                          have o6 := OX.out.kept g6 (by have := T5.out.siz; omega)
                          have i6 : IsPv V6 { x with m := u12 } { p with ms := insR (ltM y) y p.ms } := ⟨H.out.1.o, H.out.1.wf, (H.out.1.below b6).k, (show SlV eM V6 u12 (insR (ltM y) y p.ms) from by rw [HR.out.2]; exact o6.slv), (H.out.1.below b6).c, (H.out.1.below b6).b⟩
                          obtain ⟨Z, sZ, pZ, gZ, bZ⟩ := T6.tell i6.one
                          have o7 := o6.kept gZ (by have := T5.out.siz; omega)
                          have G : Hid (PrAt Z (w.heap.size + 2) { x with m := u12 } ∧ IsPv Z { x with m := u12 } { p with ms := insR (ltM y) y p.ms } ∧ Below w.heap.size w Z) := ⟨pZ, ⟨H.out.1.o, H.out.1.wf, (H.out.1.below bZ).k, (show SlV eM Z u12 (insR (ltM y) y p.ms) from by rw [HR.out.2]; exact o7.slv), (H.out.1.below bZ).c, (H.out.1.below bZ).b⟩, bZ⟩
                          have l9 := T6.var.ld
                          clear q6 g6 T6 b6 o6 i6 pZ gZ bZ o7
                          go_wp2
                          exact ret_pe Try.results74 rfl rfl rfl G.out.1 (by show RdT w _ _ _; rw [E.out]; exact ⟨⟨_, rfl, G.out.2.1⟩, G.out.2.2⟩)
              · skip
                have E0 : refM p y = 181 := by unfold refM; simp [QV.out, QS.out, N2.out, N3.out, Q1.out.2, Q2.out.2]
                have E : Hid (whn p { p with ms := insR (ltM y) y p.ms } (refM p y) = (p, 181)) := by rw [E0]; exact rfl
                clear E0
                have f5 := T5.out.var.ld
                have f5a := (show MpAt V5 (w.heap.size + 1) y from T5.out.arg).c0
                have f5b := (show MpAt V5 (w.heap.size + 1) y from T5.out.arg).c1
                have f5c := (show MpAt V5 (w.heap.size + 1) y from T5.out.arg).c2
                obtain ⟨Z, sZ, pZ, gZ, bZ⟩ := T5.out.tell H.out.1.one
                have G : Hid (PrAt Z (w.heap.size + 2) x ∧ IsPv Z x p ∧ Below w.heap.size w Z) := ⟨pZ, H.out.1.below bZ, bZ⟩
                clear pZ gZ bZ
                have l9 := T5.out.var.ld
                go_wp2
                exact ret_pe Try.results74 rfl rfl rfl G.out.1 (by show RdT w _ _ _; rw [E.out]; exact ⟨⟨_, rfl, G.out.2.1⟩, G.out.2.2⟩)
            · skip
              have E0 : refM p y = 181 := by unfold refM; simp [QV.out, QS.out, N2.out, N3.out, Q1.out.2, Q2.out.2]
              have E : Hid (whn p { p with ms := insR (ltM y) y p.ms } (refM p y) = (p, 181)) := by rw [E0]; exact rfl
              clear E0
              have f5 := T5.out.var.ld
              have f5a := (show MpAt V5 (w.heap.size + 1) y from T5.out.arg).c0
              have f5b := (show MpAt V5 (w.heap.size + 1) y from T5.out.arg).c1
              have f5c := (show MpAt V5 (w.heap.size + 1) y from T5.out.arg).c2
              obtain ⟨Z, sZ, pZ, gZ, bZ⟩ := T5.out.tell H.out.1.one
              have G : Hid (PrAt Z (w.heap.size + 2) x ∧ IsPv Z x p ∧ Below w.heap.size w Z) := ⟨pZ, H.out.1.below bZ, bZ⟩
              clear pZ gZ bZ
              have l9 := T5.out.var.ld
              go_wp2
              exact ret_pe Try.results74 rfl rfl rfl G.out.1 (by show RdT w _ _ _; rw [E.out]; exact ⟨⟨_, rfl, G.out.2.1⟩, G.out.2.2⟩)
          · have e4 : (u != 1) = true := by simp [h4]
            have N5 : Hid (isK p y.p 1 = false) := by rw [N3.out]; show (u == 1) = false; simp [h4]
            have E0 : refM p y = 184 := by unfold refM; simp [QV.out, QS.out, N2.out, N5.out]
            have E : Hid (whn p { p with ms := insR (ltM y) y p.ms } (refM p y) = (p, 184)) := by rw [E0]; exact rfl
            clear E0
            have f5 := T5.out.var.ld
            have f5a := (show MpAt V5 (w.heap.size + 1) y from T5.out.arg).c0
            have f5b := (show MpAt V5 (w.heap.size + 1) y from T5.out.arg).c1
            have f5c := (show MpAt V5 (w.heap.size + 1) y from T5.out.arg).c2
            obtain ⟨Z, sZ, pZ, gZ, bZ⟩ := T5.out.tell H.out.1.one
            have G : Hid (PrAt Z (w.heap.size + 2) x ∧ IsPv Z x p ∧ Below w.heap.size w Z) := ⟨pZ, H.out.1.below bZ, bZ⟩
            clear pZ gZ bZ
            have l9 := T5.out.var.ld
            go_wp2
            exact ret_pe Try.results74 rfl rfl rfl G.out.1 (by show RdT w _ _ _; rw [E.out]; exact ⟨⟨_, rfl, G.out.2.1⟩, G.out.2.2⟩)
set_option maxHeartbeats 8000000 in
theorem raddC_any (x : Pr) (p : Pv) (y : Cr) (w : World) (h : IsPv w x p) (hz : Sz p) :
    Calls Try.prog 76 #[.agg x.cs, .agg y.cs] w fun r w' => RdT w (whn p { p with cs := insR (ltC y) y p.cs } (refC p y)) r w' := by
  obtain ⟨a, n, c, hv, hs⟩ := h.c
  obtain ⟨ka, kn, kc, kv, ks⟩ := h.k
  obtain ⟨W, V, V0, hW, hV, hU, S0, zW, zV⟩ := RdS.new w x 102 y.cs
  have T0 : Hid (RdS w V0 x 102 y.cs) := S0
  have H : Hid (IsPv w x p ∧ SlAt eC w a n c p.cs ∧ p.cs.length = n ∧ x.c = .slice a n c ∧ Sz p ∧ SlAt eK w ka kn kc p.ks ∧ p.ks.length = kn ∧ x.k = .slice ka kn kc) := ⟨h, hs, hs.len, hv, hz, ks, ks.len, kv⟩
  have hnn := hs.int
  have hkn := ks.int
  have hn100 : n ≤ 100 := by rw [← hs.len]; exact hz.2.2.1
  obtain ⟨R, hR⟩ : ∃ z, insR (ltC y) y p.cs = z := ⟨_, rfl⟩
  have HR : Hid (R = [] ++ insD false (ltC y) y (p.cs.drop 0) ∧ insR (ltC y) y p.cs = R) := ⟨hR.symm, hR⟩
  clear S0 h hs hv hz ks kv hR
  obtain ⟨⟨ca, cb⟩, e3⟩ : ∃ z, car p y.s = z := ⟨_, rfl⟩
  obtain ⟨pb, e4⟩ : ∃ z, (pts p y.v).isSome = z := ⟨_, rfl⟩
  have Q3 : Hid (Value.tuple #[.int .i64 (car p y.s).1, .bool (car p y.s).2] = Value.tuple #[.int .i64 ca, .bool cb] ∧ (car p y.s).2 = cb) := by rw [e3]; exact ⟨rfl, rfl⟩
  have Q4 : Hid ((pts p y.v).isSome = pb) := e4
  clear e3 e4
  obtain ⟨t0, h0⟩ : ∃ zz, isV y.v = zz := ⟨_, rfl⟩
  have QV : Hid (isV y.v = t0) := h0
  obtain ⟨t1, h1⟩ : ∃ zz, isS y.s = zz := ⟨_, rfl⟩
  have QS : Hid (isS y.s = t1) := h1
  clear h0 h1
  go_enter Try.func76, Try.ntmps76
  have f0 := T0.out.var.ld
  have f0a := (show CrAt V0 (w.heap.size + 1) y from T0.out.arg).c0
  have f0b := (show CrAt V0 (w.heap.size + 1) y from T0.out.arg).c1
  go_wp2_with fail
  refine (Calls.ret_eq Q3.out.1 (rcar_any x p y.s V0 (H.out.1.below T0.out.bel))).mono ?_
  rintro _ V1 ⟨rfl, hb⟩
  have T1 : Hid (RdS w V1 x 102 y.cs) := T0.out.below hb
  clear hb f0 f0a f0b
  have f1 := T1.out.var.ld
  have f1a := (show CrAt V1 (w.heap.size + 1) y from T1.out.arg).c0
  have f1b := (show CrAt V1 (w.heap.size + 1) y from T1.out.arg).c1
  go_wp2_with fail
  refine (rpts_any x p y.v V1 (H.out.1.below T1.out.bel)).mono ?_
  rintro _ V2 ⟨pv, rfl, _, hb⟩
  rw [Q4.out]
  have T2 : Hid (RdS w V2 x 102 y.cs) := T1.out.below hb
  clear hb f1 f1a f1b
  have f2 := T2.out.var.ld
  have f2a := (show CrAt V2 (w.heap.size + 1) y from T2.out.arg).c0
  have f2b := (show CrAt V2 (w.heap.size + 1) y from T2.out.arg).c1
  go_wp2_with fail
  refine (ret_b (rvid_any y.v V2) QV.out).mono ?_
  rintro _ V3 ⟨rfl, hb⟩
  have T3 : Hid (RdS w V3 x 102 y.cs) := T2.out.below hb
  clear hb f2 f2a f2b
  cases t0
  · skip
    have E0 : refC p y = 1 := by unfold refC; simp [QV.out, QS.out]
    have E : Hid (whn p { p with cs := insR (ltC y) y p.cs } (refC p y) = (p, 1)) := by rw [E0]; exact rfl
    clear E0
    have f3 := T3.out.var.ld
    have f3a := (show CrAt V3 (w.heap.size + 1) y from T3.out.arg).c0
    have f3b := (show CrAt V3 (w.heap.size + 1) y from T3.out.arg).c1
    obtain ⟨Z, sZ, pZ, gZ, bZ⟩ := T3.out.tell H.out.1.one
    have G : Hid (PrAt Z (w.heap.size + 2) x ∧ IsPv Z x p ∧ Below w.heap.size w Z) := ⟨pZ, H.out.1.below bZ, bZ⟩
    clear pZ gZ bZ
    have l9 := T3.out.var.ld
    go_wp2
    exact ret_pe Try.results76 rfl rfl rfl G.out.1 (by show RdT w _ _ _; rw [E.out]; exact ⟨⟨_, rfl, G.out.2.1⟩, G.out.2.2⟩)
  · skip
    have f3 := T3.out.var.ld
    have f3a := (show CrAt V3 (w.heap.size + 1) y from T3.out.arg).c0
    have f3b := (show CrAt V3 (w.heap.size + 1) y from T3.out.arg).c1
    go_wp2_with fail
    refine (ret_b (risid_any y.s V3) QS.out).mono ?_
    rintro _ V4 ⟨rfl, hb⟩
    have T4 : Hid (RdS w V4 x 102 y.cs) := T3.out.below hb
    clear hb f3 f3a f3b
    cases t1
    · skip
      have E0 : refC p y = 1 := by unfold refC; simp [QV.out, QS.out]
      have E : Hid (whn p { p with cs := insR (ltC y) y p.cs } (refC p y) = (p, 1)) := by rw [E0]; exact rfl
      clear E0
      have f4 := T4.out.var.ld
      have f4a := (show CrAt V4 (w.heap.size + 1) y from T4.out.arg).c0
      have f4b := (show CrAt V4 (w.heap.size + 1) y from T4.out.arg).c1
      obtain ⟨Z, sZ, pZ, gZ, bZ⟩ := T4.out.tell H.out.1.one
      have G : Hid (PrAt Z (w.heap.size + 2) x ∧ IsPv Z x p ∧ Below w.heap.size w Z) := ⟨pZ, H.out.1.below bZ, bZ⟩
      clear pZ gZ bZ
      have l9 := T4.out.var.ld
      go_wp2
      exact ret_pe Try.results76 rfl rfl rfl G.out.1 (by show RdT w _ _ _; rw [E.out]; exact ⟨⟨_, rfl, G.out.2.1⟩, G.out.2.2⟩)
    · skip
      have c6 := T4.out.var.k
      rw [H.out.2.2.2.2.2.2.2] at c6
      have c7 := T4.out.var.c
      rw [H.out.2.2.2.1] at c7
      cases cb
      · cases pb
        · skip
          have E0 : refC p y = 182 := by unfold refC; simp [QV.out, QS.out, Q3.out.2, Q4.out]
          have E : Hid (whn p { p with cs := insR (ltC y) y p.cs } (refC p y) = (p, 182)) := by rw [E0]; exact rfl
          clear E0
          have f4 := T4.out.var.ld
          have f4a := (show CrAt V4 (w.heap.size + 1) y from T4.out.arg).c0
          have f4b := (show CrAt V4 (w.heap.size + 1) y from T4.out.arg).c1
          obtain ⟨Z, sZ, pZ, gZ, bZ⟩ := T4.out.tell H.out.1.one
          have G : Hid (PrAt Z (w.heap.size + 2) x ∧ IsPv Z x p ∧ Below w.heap.size w Z) := ⟨pZ, H.out.1.below bZ, bZ⟩
          clear pZ gZ bZ
          have l9 := T4.out.var.ld
          go_wp2
          exact ret_pe Try.results76 rfl rfl rfl G.out.1 (by show RdT w _ _ _; rw [E.out]; exact ⟨⟨_, rfl, G.out.2.1⟩, G.out.2.2⟩)
        · skip
          by_cases h64 : 64 ≤ n
          · have d4 : decide ((n : Int) ≥ 64) = true := by simp; omega
            have d5 : decide ((64 : Int) ≤ (n : Int)) = true := by simp; omega
            have N4 : Hid (64 ≤ p.cs.length) := by rw [H.out.2.2.1]; exact h64
            have E0 : refC p y = 3 := by unfold refC; simp [QV.out, QS.out, Q3.out.2, Q4.out, N4.out]
            have E : Hid (whn p { p with cs := insR (ltC y) y p.cs } (refC p y) = (p, 3)) := by rw [E0]; exact rfl
            clear E0
            have f4 := T4.out.var.ld
            have f4a := (show CrAt V4 (w.heap.size + 1) y from T4.out.arg).c0
            have f4b := (show CrAt V4 (w.heap.size + 1) y from T4.out.arg).c1
            obtain ⟨Z, sZ, pZ, gZ, bZ⟩ := T4.out.tell H.out.1.one
            have G : Hid (PrAt Z (w.heap.size + 2) x ∧ IsPv Z x p ∧ Below w.heap.size w Z) := ⟨pZ, H.out.1.below bZ, bZ⟩
            clear pZ gZ bZ
            have l9 := T4.out.var.ld
            go_wp2
            exact ret_pe Try.results76 rfl rfl rfl G.out.1 (by show RdT w _ _ _; rw [E.out]; exact ⟨⟨_, rfl, G.out.2.1⟩, G.out.2.2⟩)
          · have d4 : decide ((n : Int) ≥ 64) = false := by simp; omega
            have d5 : decide ((64 : Int) ≤ (n : Int)) = false := by simp; omega
            have N4 : Hid (¬ 64 ≤ p.cs.length) := by rw [H.out.2.2.1]; exact h64
            have E0 : refC p y = 0 := by unfold refC; simp [QV.out, QS.out, Q3.out.2, Q4.out, N4.out]
            have E : Hid (whn p { p with cs := insR (ltC y) y p.cs } (refC p y) = ({ p with cs := insR (ltC y) y p.cs }, 0)) := by rw [E0]; exact rfl
            clear E0
            have EE : Hid (whn p { p with cs := insR (ltC y) y p.cs } (refC p y) = ({ p with cs := insR (ltC y) y p.cs }, 0)) := E.out
            clear E h64
            have f4 := T4.out.var.ld
            have f4a := (show CrAt V4 (w.heap.size + 1) y from T4.out.arg).c0
            have f4b := (show CrAt V4 (w.heap.size + 1) y from T4.out.arg).c1
            go_wp2_with fail
            clear c6 c7 f4 f4a f4b
            go_loopw [10, 11, 12] (fun u d v wr => ∃ (i : Nat) (acc : List Cr) (D : Bool), i ≤ n ∧ v = .int .i64 i ∧ d = .bool D ∧ R = acc ++ insD D (ltC y) y (p.cs.drop i) ∧ acc.length ≤ i + D.toNat ∧ Own eC wr V4.heap.size u acc ∧ Below V4.heap.size V4 wr) (fun u d v _ => n - (intOf v).toNat)
            case atStart => exact ⟨0, [], false, by omega, rfl, rfl, HR.out.1, by simp, Own.nil _ _, Below.refl _ _⟩
            case round =>
              obtain ⟨i, acc, D, hi, rfl, rfl, hf, ha, hO, hB⟩ := hrel
              have J : Hid (R = acc ++ insD D (ltC y) y (p.cs.drop i) ∧ acc.length ≤ i + D.toNat ∧ Own eC wr V4.heap.size u10 acc ∧ Below V4.heap.size V4 wr) := ⟨hf, ha, hO, hB⟩
              have TJ : Hid (RdS w wr x 102 y.cs) := T4.out.below hB
              have hi0 : (0 : Int) ≤ (i : Int) := by omega
              have c1 := TJ.out.var.c
              rw [H.out.2.2.2.1] at c1
              clear hf ha hO hB
              by_cases hit : i < n
              · have hi1 : (i : Int) < (n : Int) := by omega
                obtain ⟨b, o, rfl⟩ := H.out.2.1.some' (by omega)
                obtain ⟨z, hz⟩ := lt_nth (l := p.cs) (i := i) (by rw [H.out.2.2.1]; exact hit)
                have HX : Hid (p.cs[i]? = some z) := hz
                clear hz
                cases D
                · have k0 := fun q : Later wr => ((show CrAt wr (w.heap.size + 1) y from TJ.out.arg).below q.below).c0
                  have k1 := fun q : Later wr => (TJ.out.below q.below).var.c
                  rw [H.out.2.2.2.1] at k1
                  have k2 := fun q : Later wr => lC0 ((H.out.2.1.below TJ.out.bel).below q.below) HX.out
                  obtain ⟨bb, hbb⟩ : ∃ zz, ltC y z = zz := ⟨_, rfl⟩
                  have hbd : decide (y.s < z.s) = bb := hbb
                  have HB : Hid (ltC y z = bb) := hbb
                  clear hbb
                  cases bb
                  · have E : Hid (R = (acc ++ [z]) ++ insD false (ltC y) y (p.cs.drop (i + 1))) := by rw [J.out.1, insD_no HX.out HB.out, List.append_assoc]; exact rfl
                    go_wp2_with fail
                    clear c1
                    refine wp_region_later (by kernel_rfl) (by kernel_rfl) ?_
                    repeat (go_big_quiet_step (first | exact rfl))
                    refine wpQuiet_nil ?_
                    intro _ hw'
                    obtain ⟨q, rfl⟩ := hw'
                    have TQ : Hid (RdS w q.val x 102 y.cs) := TJ.out.below q.below
                    have OQ : Hid (Own eC q.val V4.heap.size u10 acc ∧ Below V4.heap.size V4 q.val) := ⟨J.out.2.2.1.below q.below, below_over J.out.2.2.2 q.below⟩
                    clear k0 k1 k2 hbd
                    have c1 := TQ.out.var.c
                    rw [H.out.2.2.2.1] at c1
                    have c2 := lC (H.out.2.1.below TQ.out.bel) HX.out
                    obtain ⟨v1, X1, aX1, oX1, bX1⟩ := nC OQ.out.1 OQ.out.2.size (by have := J.out.2.1; simp at this ⊢; omega) z
                    have OX1 : Hid (Own eC X1 V4.heap.size v1 (acc ++ [z]) ∧ Below V4.heap.size V4 X1) := ⟨oX1, OQ.out.2.trans bX1⟩
                    have TX1 : Hid (RdS w X1 x 102 y.cs) := T4.out.below OX1.out.2
                    clear oX1 bX1
                    go_wp2
                    go_roundw
                    case rel => exact ⟨i + 1, acc ++ [z], false, by omega, by go_num, rfl, E.out, by have := J.out.2.1; simp at this ⊢; omega, OX1.out.1, OX1.out.2⟩
                    case measure => simp [intOf]; omega
                  · have E0 : R = (acc ++ [y] ++ [z]) ++ insD true (ltC y) y (p.cs.drop (i + 1)) := by rw [J.out.1, insD_yes HX.out HB.out]; simp only [List.append_assoc]
                    have E : Hid (R = (acc ++ [y] ++ [z]) ++ insD true (ltC y) y (p.cs.drop (i + 1))) := E0
                    clear E0
                    go_wp2_with fail
                    clear c1
                    refine wp_region_later (by kernel_rfl) (by kernel_rfl) ?_
                    repeat (go_big_quiet_step (first | exact rfl))
                    refine wpQuiet_nil ?_
                    intro _ hw'
                    obtain ⟨q, rfl⟩ := hw'
                    have TQ : Hid (RdS w q.val x 102 y.cs) := TJ.out.below q.below
                    have OQ : Hid (Own eC q.val V4.heap.size u10 acc ∧ Below V4.heap.size V4 q.val) := ⟨J.out.2.2.1.below q.below, below_over J.out.2.2.2 q.below⟩
                    clear k0 k1 k2 hbd
                    have c3 := (show CrAt q.val (w.heap.size + 1) y from TQ.out.arg).ld
                    obtain ⟨v1, X1, aX1, oX1, bX1⟩ := nC OQ.out.1 OQ.out.2.size (by have := J.out.2.1; simp at this ⊢; omega) y
                    have OX1 : Hid (Own eC X1 V4.heap.size v1 (acc ++ [y]) ∧ Below V4.heap.size V4 X1) := ⟨oX1, OQ.out.2.trans bX1⟩
                    have TX1 : Hid (RdS w X1 x 102 y.cs) := T4.out.below OX1.out.2
                    clear oX1 bX1
                    have c1 := TX1.out.var.c
                    rw [H.out.2.2.2.1] at c1
                    have c2 := lC (H.out.2.1.below TX1.out.bel) HX.out
                    obtain ⟨v2, X2, aX2, oX2, bX2⟩ := nC OX1.out.1 OX1.out.2.size (by have := J.out.2.1; simp at this ⊢; omega) z
                    have OX2 : Hid (Own eC X2 V4.heap.size v2 (acc ++ [y] ++ [z]) ∧ Below V4.heap.size V4 X2) := ⟨oX2, OX1.out.2.trans bX2⟩
                    have TX2 : Hid (RdS w X2 x 102 y.cs) := T4.out.below OX2.out.2
                    clear oX2 bX2
                    go_wp2
                    go_roundw
                    case rel => exact ⟨i + 1, acc ++ [y] ++ [z], true, by omega, by go_num, rfl, E.out, by have := J.out.2.1; simp at this ⊢; omega, OX2.out.1, OX2.out.2⟩
                    case measure => simp [intOf]; omega
                · have E : Hid (R = (acc ++ [z]) ++ insD true (ltC y) y (p.cs.drop (i + 1))) := by rw [J.out.1, insD_t HX.out, List.append_assoc]; exact rfl
                  go_wp2_with fail
                  clear c1
                  refine wp_region_later (by kernel_rfl) (by kernel_rfl) ?_
                  repeat (go_big_quiet_step (first | exact rfl))
                  refine wpQuiet_nil ?_
                  intro _ hw'
                  obtain ⟨q, rfl⟩ := hw'
                  have TQ : Hid (RdS w q.val x 102 y.cs) := TJ.out.below q.below
                  have OQ : Hid (Own eC q.val V4.heap.size u10 acc ∧ Below V4.heap.size V4 q.val) := ⟨J.out.2.2.1.below q.below, below_over J.out.2.2.2 q.below⟩
                  have c1 := TQ.out.var.c
                  rw [H.out.2.2.2.1] at c1
                  have c2 := lC (H.out.2.1.below TQ.out.bel) HX.out
                  obtain ⟨v1, X1, aX1, oX1, bX1⟩ := nC OQ.out.1 OQ.out.2.size (by have := J.out.2.1; simp at this ⊢; omega) z
                  have OX1 : Hid (Own eC X1 V4.heap.size v1 (acc ++ [z]) ∧ Below V4.heap.size V4 X1) := ⟨oX1, OQ.out.2.trans bX1⟩
                  have TX1 : Hid (RdS w X1 x 102 y.cs) := T4.out.below OX1.out.2
                  clear oX1 bX1
                  go_wp2
                  go_roundw
                  case rel => exact ⟨i + 1, acc ++ [z], true, by omega, by go_num, rfl, E.out, by have := J.out.2.1; simp at this ⊢; omega, OX1.out.1, OX1.out.2⟩
                  case measure => simp [intOf]; omega
              · have hi1 : ¬ (i : Int) < (n : Int) := by omega
                have E : Hid (whn p { p with cs := insR (ltC y) y p.cs } (refC p y) = ({ p with cs := insR (ltC y) y p.cs }, 0)) := EE.out
                have LE : Hid (p.cs.length ≤ i) := by rw [H.out.2.2.1]; show _ ≤ _; omega
                have LI : Hid (i ≤ 100) := by show _ ≤ _; omega
                clear hit hi
                obtain ⟨V9, hV9⟩ : ∃ z, wr = z := ⟨_, rfl⟩
                rw [hV9] at J TJ c1
                rw [hV9]
                clear hV9
                cases D
                · have c3 := (show CrAt V9 (w.heap.size + 1) y from TJ.out.arg).ld
                  obtain ⟨v1, X1, aX1, oX1, bX1⟩ := nC J.out.2.2.1 J.out.2.2.2.size (by have h1 := J.out.2.1; have h2 := LI.out; simp at h1; omega) y
                  have OX : Hid (Own eC X1 V4.heap.size v1 R) := by rw [J.out.1, insD_ef LE.out]; exact oX1
                  have TX1 : Hid (RdS w X1 x 102 y.cs) := T4.out.below (J.out.2.2.2.trans bX1)
                  clear oX1 bX1
                  obtain ⟨V6, s6, q6, g6⟩ := TX1.out.var.stC v1 OX.out.slv.one
                  have T6 := TX1.out.set q6 g6
                  have b6 : Below w.heap.size w V6 := T6.bel
                  have o6 := OX.out.kept g6 (by have := T4.out.siz; omega)
                  have i6 : IsPv V6 { x with c := v1 } { p with cs := insR (ltC y) y p.cs } := ⟨H.out.1.o, H.out.1.wf, (H.out.1.below b6).k, (H.out.1.below b6).m, (show SlV eC V6 v1 (insR (ltC y) y p.cs) from by rw [HR.out.2]; exact o6.slv), (H.out.1.below b6).b⟩
                  obtain ⟨Z, sZ, pZ, gZ, bZ⟩ := T6.tell i6.one
                  have o7 := o6.kept gZ (by have := T4.out.siz; omega)
                  have G : Hid (PrAt Z (w.heap.size + 2) { x with c := v1 } ∧ IsPv Z { x with c := v1 } { p with cs := insR (ltC y) y p.cs } ∧ Below w.heap.size w Z) := ⟨pZ, ⟨H.out.1.o, H.out.1.wf, (H.out.1.below bZ).k, (H.out.1.below bZ).m, (show SlV eC Z v1 (insR (ltC y) y p.cs) from by rw [HR.out.2]; exact o7.slv), (H.out.1.below bZ).b⟩, bZ⟩
                  have l9 := T6.var.ld
                  clear q6 g6 T6 b6 o6 i6 pZ gZ bZ o7
                  go_wp2
                  exact ret_pe Try.results76 rfl rfl rfl G.out.1 (by show RdT w _ _ _; rw [E.out]; exact ⟨⟨_, rfl, G.out.2.1⟩, G.out.2.2⟩)
                · have OX : Hid (Own eC V9 V4.heap.size u10 R) := by rw [J.out.1, insD_et LE.out, List.append_nil]; exact J.out.2.2.1
                  obtain ⟨V6, s6, q6, g6⟩ := TJ.out.var.stC u10 OX.out.slv.one
                  have T6 := TJ.out.set q6 g6
                  have b6 : Below w.heap.size w V6 := T6.bel
                  have o6 := OX.out.kept g6 (by have := T4.out.siz; omega)
                  have i6 : IsPv V6 { x with c := u10 } { p with cs := insR (ltC y) y p.cs } := ⟨H.out.1.o, H.out.1.wf, (H.out.1.below b6).k, (H.out.1.below b6).m, (show SlV eC V6 u10 (insR (ltC y) y p.cs) from by rw [HR.out.2]; exact o6.slv), (H.out.1.below b6).b⟩
                  obtain ⟨Z, sZ, pZ, gZ, bZ⟩ := T6.tell i6.one
                  have o7 := o6.kept gZ (by have := T4.out.siz; omega)
                  have G : Hid (PrAt Z (w.heap.size + 2) { x with c := u10 } ∧ IsPv Z { x with c := u10 } { p with cs := insR (ltC y) y p.cs } ∧ Below w.heap.size w Z) := ⟨pZ, ⟨H.out.1.o, H.out.1.wf, (H.out.1.below bZ).k, (H.out.1.below bZ).m, (show SlV eC Z u10 (insR (ltC y) y p.cs) from by rw [HR.out.2]; exact o7.slv), (H.out.1.below bZ).b⟩, bZ⟩
                  have l9 := T6.var.ld
                  clear q6 g6 T6 b6 o6 i6 pZ gZ bZ o7
                  go_wp2
                  exact ret_pe Try.results76 rfl rfl rfl G.out.1 (by show RdT w _ _ _; rw [E.out]; exact ⟨⟨_, rfl, G.out.2.1⟩, G.out.2.2⟩)
      · skip
        have E0 : refC p y = 181 := by unfold refC; simp [QV.out, QS.out, Q3.out.2]
        have E : Hid (whn p { p with cs := insR (ltC y) y p.cs } (refC p y) = (p, 181)) := by rw [E0]; exact rfl
        clear E0
        have f4 := T4.out.var.ld
        have f4a := (show CrAt V4 (w.heap.size + 1) y from T4.out.arg).c0
        have f4b := (show CrAt V4 (w.heap.size + 1) y from T4.out.arg).c1
        obtain ⟨Z, sZ, pZ, gZ, bZ⟩ := T4.out.tell H.out.1.one
        have G : Hid (PrAt Z (w.heap.size + 2) x ∧ IsPv Z x p ∧ Below w.heap.size w Z) := ⟨pZ, H.out.1.below bZ, bZ⟩
        clear pZ gZ bZ
        have l9 := T4.out.var.ld
        go_wp2
        exact ret_pe Try.results76 rfl rfl rfl G.out.1 (by show RdT w _ _ _; rw [E.out]; exact ⟨⟨_, rfl, G.out.2.1⟩, G.out.2.2⟩)
end Go.Proofs.Ytgjagedngdhdaaa
