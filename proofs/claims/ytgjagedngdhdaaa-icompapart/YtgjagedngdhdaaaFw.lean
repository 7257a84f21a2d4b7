/-
  What is provisioned, not much more than may be: the walk of Few, for every input.
-/
import Derived.Test.YtgjagedngdhdaaaJ18Doc
namespace Go.Proofs.Ytgjagedngdhdaaa
set_option linter.unusedVariables false
set_option maxRecDepth 4000
set_option linter.unusedSimpArgs false
open Go.RowKit
attribute [local go_sem ↓] ldM stM ldC stC ldB stB ldP stP apI bsI
attribute [local go_sem] bsI_is bsI2_is

attribute [local go_sem ↓] stIs stKs stMs stCs stBs slK slM slC apB bsB
attribute [local go_sem] bsB_is
def fewP (p : Pv) : Pv := ⟨p.o, p.ks.take 10, p.ms.take 66, p.cs.take 66, (p.bs.take 66).map shM⟩
theorem sz_few (p : Pv) : Sz (fewP p) := by
  refine ⟨?_, ?_, ?_, ?_, fun m hm => ?_⟩
  · exact Nat.le_trans (List.length_take_le ..) (by decide)
  · exact Nat.le_trans (List.length_take_le ..) (by decide)
  · exact Nat.le_trans (List.length_take_le ..) (by decide)
  · show ((p.bs.take 66).map shM).length ≤ 100
    rw [List.length_map]
    exact Nat.le_trans (List.length_take_le ..) (by decide)
  · obtain ⟨z, _, rfl⟩ := List.mem_map.1 hm
    exact Nat.le_trans (List.length_take_le ..) (by decide)
theorem few_next {l : List Mb} {i : Nat} {z : Mb} (h : l[i]? = some z) : (l.take (i + 1)).map shM = (l.take i).map shM ++ [shM z] := by
  rw [take_one h, List.map_append]
  rfl
/-- What Few tells: its rows' places are those handed in, but the members' row, which is its own. -/
structure FewK (w0 W : World) (B : Nat) (y : Pr) (q : Pv) : Prop where
  o : y.o = q.o
  wf : q.o.wf
  k : SlV eK w0 y.k q.ks
  m : SlV eM w0 y.m q.ms
  c : SlV eC w0 y.c q.cs
  b : ∃ rr, Own eB W B y.b rr ∧ Mem w0 rr q.bs
theorem FewK.pv {w0 W : World} {B : Nat} {y : Pr} {q : Pv} (h : FewK w0 W B y q) (hb : Below w0.heap.size w0 W) : IsPv W y q := by
  obtain ⟨rr, h1, h2⟩ := h.b
  exact ⟨h.o, h.wf, h.k.below hb, h.m.below hb, h.c.below hb, rr, h1.slv, h2.below hb⟩
theorem FewK.below {w0 W W' : World} {B : Nat} {y : Pr} {q : Pv} (h : FewK w0 W B y q) (hb : Below W.heap.size W W') : FewK w0 W' B y q := by
  obtain ⟨rr, h1, h2⟩ := h.b
  exact ⟨h.o, h.wf, h.k, h.m, h.c, rr, h1.below hb, h2⟩
theorem FewK.kept {w0 W W' : World} {B g : Nat} {y : Pr} {q : Pv} (h : FewK w0 W B y q) (hg : W.grownBy W' (some g)) (hl : g < B) : FewK w0 W' B y q := by
  obtain ⟨rr, h1, h2⟩ := h.b
  exact ⟨h.o, h.wf, h.k, h.m, h.c, rr, h1.kept hg hl, h2⟩
set_option maxHeartbeats 16000000 in
theorem few_at (x : Pr) (p : Pv) (w0 w : World) (h : IsPv w0 x p) (hb0 : Below w0.heap.size w0 w) :
    Calls Try.prog 8 #[.agg x.cs] w fun r w' => (∃ y : Pr, r = .returned (.agg y.cs) ∧ FewK w0 w' w.heap.size y (fewP p)) ∧ Below w.heap.size w w' := by
  have HB : Hid (Below w0.heap.size w0 w) := hb0
  obtain ⟨ka, kn, kc, kv, ks⟩ := h.k
  obtain ⟨ma, mn, mc, mv, ms⟩ := h.m
  obtain ⟨ca, cn, cc, cv, cs⟩ := h.c
  obtain ⟨rr, ⟨ba, bn, bc, bv, bs⟩, bm⟩ := h.b
  obtain ⟨W, hW, m0, bW, zW⟩ := PrAt.new w x
  obtain ⟨V0, hV, m1, bV, zV⟩ := PrAt.zero W
  have T0 : Hid (TwS w V0 x) := ⟨m0.below bV, by rw [zW] at m1; exact m1, below_over bW bV, by rw [zV, zW]; omega⟩
  have H : Hid (SlAt eK w0 ka kn kc p.ks ∧ SlAt eM w0 ma mn mc p.ms ∧ SlAt eC w0 ca cn cc p.cs ∧ SlAt eB w0 ba bn bc rr ∧ Mem w0 rr p.bs) := ⟨ks, ms, cs, bs, bm⟩
  have HV : Hid (x.k = .slice ka kn kc ∧ x.m = .slice ma mn mc ∧ x.c = .slice ca cn cc ∧ x.b = .slice ba bn bc) := ⟨kv, mv, cv, bv⟩
  have HO : Hid (x.o = p.o ∧ p.o.wf) := ⟨h.o, h.wf⟩
  have HL : Hid (rr.length = bn ∧ p.bs.length = bn) := ⟨bs.len, by rw [← bm.len]; exact bs.len⟩
  have i0 := ks.int
  have i1 := ms.int
  have i2 := cs.int
  have i3 := bs.int
  clear hb0 h ks ms cs bs bm kv mv cv bv m0 m1 bW bV zV
  have c0 : V0.cell? ⟨w.heap.size, 6, none⟩ = some x.k := T0.out.var.k
  rw [HV.out.1] at c0
  by_cases h0 : kn ≤ 10
  · have d0 : decide ((kn : Int) > 10) = false := by simp; omega
    have d0' : decide ((10 : Int) < (kn : Int)) = false := by simp; omega
    have q0 : Hid (SlAt eK w0 ka kn kc (p.ks.take 10)) := by rw [List.take_of_length_le (by rw [H.out.1.len]; exact h0)]; exact H.out.1
    obtain ⟨V1, rfl⟩ : ∃ z, z = V0 := ⟨_, rfl⟩
    clear h0
    have T1 := T0
    have c1 : V1.cell? ⟨w.heap.size, 7, none⟩ = some x.m := T1.out.var.m
    rw [HV.out.2.1] at c1
    by_cases h1 : mn ≤ 66
    · have d1 : decide ((mn : Int) > 66) = false := by simp; omega
      have d1' : decide ((66 : Int) < (mn : Int)) = false := by simp; omega
      have q1 : Hid (SlAt eM w0 ma mn mc (p.ms.take 66)) := by rw [List.take_of_length_le (by rw [H.out.2.1.len]; exact h1)]; exact H.out.2.1
      obtain ⟨V2, rfl⟩ : ∃ z, z = V1 := ⟨_, rfl⟩
      clear h1
      have T2 := T1
      have c2 : V2.cell? ⟨w.heap.size, 8, none⟩ = some x.c := T2.out.var.c
      rw [HV.out.2.2.1] at c2
      by_cases h2 : cn ≤ 66
      · have d2 : decide ((cn : Int) > 66) = false := by simp; omega
        have d2' : decide ((66 : Int) < (cn : Int)) = false := by simp; omega
        have q2 : Hid (SlAt eC w0 ca cn cc (p.cs.take 66)) := by rw [List.take_of_length_le (by rw [H.out.2.2.1.len]; exact h2)]; exact H.out.2.2.1
        obtain ⟨V3, rfl⟩ : ∃ z, z = V2 := ⟨_, rfl⟩
        clear h2
        have T3 := T2
        have TT : Hid (TwS w V3 ⟨x.o, x.k, x.m, x.c, x.b⟩) := T3.out
        have HQ : Hid (SlAt eK w0 ka kn kc (p.ks.take 10) ∧ SlAt eM w0 ma mn mc (p.ms.take 66) ∧ SlAt eC w0 ca cn cc (p.cs.take 66)) := ⟨q0.out, q1.out, q2.out⟩
        have c9 : V3.cell? ⟨w.heap.size, 9, none⟩ = some x.b := TT.out.var.b
        rw [HV.out.2.2.2] at c9
        go_enter Try.func8, Try.ntmps8
        go_wp2_with fail
        clear c0 c1 c2 c9
        go_loopw [3, 4] (fun u v wr => ∃ (i : Nat) (acc : List Mr), i ≤ bn ∧ i ≤ 66 ∧ v = .int .i64 i ∧ acc.length = i ∧ Own eB wr V3.heap.size u acc ∧ Mem w0 acc ((p.bs.take i).map shM) ∧ Below V3.heap.size V3 wr) (fun u v _ => bn - (intOf v).toNat)
        case atStart => exact ⟨0, [], by omega, by omega, rfl, rfl, Own.nil _ _, Mem.nil _, Below.refl _ _⟩
        case round =>
          obtain ⟨i, acc, hi, hj, rfl, ha, hO, hM, hB⟩ := hrel
          have J : Hid (acc.length = i ∧ Own eB wr V3.heap.size u3 acc ∧ Mem w0 acc ((p.bs.take i).map shM) ∧ Below V3.heap.size V3 wr ∧ TwS w wr ⟨x.o, x.k, x.m, x.c, x.b⟩) := ⟨ha, hO, hM, hB, TT.out.below hB⟩
          have hi0 : (0 : Int) ≤ (i : Int) := by omega
          have c9 : wr.cell? ⟨w.heap.size, 9, none⟩ = some x.b := J.out.2.2.2.2.var.b
          rw [HV.out.2.2.2] at c9
          clear ha hO hM hB
          by_cases hit : i < bn ∧ i < 66
          · have hi1 : (i : Int) < (bn : Int) := by omega
            have hi2 : (i : Int) < 66 := by omega
            obtain ⟨b, o, rfl⟩ := H.out.2.2.2.1.some' (by omega)
            obtain ⟨y, z, hy, hz, hvz, hps⟩ := H.out.2.2.2.2.get (i := i) (by rw [HL.out.2]; exact hit.1)
            have l0 := lB (H.out.2.2.2.1.below (below_over HB.out J.out.2.2.2.2.bel)) hy
            have X : Hid (p.bs[i]? = some z ∧ y.v = z.v ∧ SlAt eI w0 y.a y.n y.c z.ps) := ⟨hz, hvz, hps⟩
            have HI : Hid (i < bn ∧ i < 66) := hit
            clear hy hz hvz hps hit
            go_wp2_with fail
            refine (short_any y z.ps wr (X.out.2.2.below (below_over HB.out J.out.2.2.2.2.bel))).mono ?_
            rintro _ Y ⟨⟨y', rfl, hv', hs'⟩, bY⟩
            obtain ⟨v', U, aU, oU, bU⟩ := nB (J.out.2.1.below bY) (below_over J.out.2.2.2.1 bY).size (by rw [J.out.1]; omega) y'
            have G : Hid (Own eB U V3.heap.size v' (acc ++ [y']) ∧ Mem w0 (acc ++ [y']) ((p.bs.take (i + 1)).map shM) ∧ Below V3.heap.size V3 U) := by
              refine ⟨oU, ?_, (below_over J.out.2.2.2.1 bY).trans bU⟩
              rw [few_next X.out.1]
              exact J.out.2.2.1.app (Mem.one (hv'.trans X.out.2.1) (hs' w0 X.out.2.2))
            clear oU bU bY hs' hv' l0 c9
            go_wp2
            go_roundw
            case rel => exact ⟨i + 1, acc ++ [y'], by have := HI.out; omega, by have := HI.out; omega, by go_num, by rw [List.length_append, J.out.1]; rfl, G.out.1, G.out.2.1, G.out.2.2⟩
            case measure => have := HI.out; simp [intOf]; omega
          · have E : Hid ((p.bs.take i).map shM = (p.bs.take 66).map shM) := by
              by_cases h6 : i < 66
              · have hl := HL.out.2
                rw [List.take_of_length_le (l := p.bs) (i := i) (by omega), List.take_of_length_le (l := p.bs) (i := 66) (by omega)]
                exact rfl
              · have : i = 66 := by omega
                subst this
                exact rfl
            obtain ⟨V4, s4, g4v, g4⟩ := J.out.2.2.2.2.var.stB u3 J.out.2.1.slv.one
            have T4 : Hid (TwS w V4 ⟨x.o, x.k, x.m, x.c, u3⟩) := J.out.2.2.2.2.set g4v g4
            have l4 := T4.out.var.ld
            have O4 : Hid (Own eB V4 V3.heap.size u3 acc) := J.out.2.1.kept g4 (by have := TT.out.siz; omega)
            have P4 : FewK w0 V4 w.heap.size ⟨x.o, x.k, x.m, x.c, u3⟩ (fewP p) := ⟨HO.out.1, HO.out.2, (show SlV eK w0 x.k (p.ks.take 10) from by rw [HV.out.1]; exact HQ.out.1.slv), (show SlV eM w0 x.m (p.ms.take 66) from by rw [HV.out.2.1]; exact HQ.out.2.1.slv), (show SlV eC w0 x.c (p.cs.take 66) from by rw [HV.out.2.2.1]; exact HQ.out.2.2.slv), acc, O4.out.mono (by have := TT.out.siz; omega), by show Mem w0 acc ((p.bs.take 66).map shM); rw [← E.out]; exact J.out.2.2.1⟩
            obtain ⟨Z, sZ, pZ, gZ⟩ := T4.out.res.st (y := ⟨x.o, x.k, x.m, x.c, u3⟩) (P4.pv (below_over HB.out T4.out.bel)).one
            have bZ : Below w.heap.size w Z := gro T4.out.bel gZ (by omega) T4.out.bel.size
            have G : Hid (PrAt Z (w.heap.size + 1) ⟨x.o, x.k, x.m, x.c, u3⟩ ∧ FewK w0 Z w.heap.size ⟨x.o, x.k, x.m, x.c, u3⟩ (fewP p) ∧ Below w.heap.size w Z) := ⟨pZ, { P4 with b := ⟨acc, (O4.out.kept gZ (by have := TT.out.siz; omega)).mono (by have := TT.out.siz; omega), by show Mem w0 acc ((p.bs.take 66).map shM); rw [← E.out]; exact J.out.2.2.1⟩ }, bZ⟩
            clear g4v g4 pZ gZ P4 bZ
            by_cases h1 : i < bn
            · have hi1 : (i : Int) < (bn : Int) := by omega
              have hi2 : ¬ (i : Int) < 66 := by omega
              clear hit
              go_wp2
              refine bodyPost_ret (results_row rtP Try.results8 _ _ _ _ rfl G.out.1 rfl) rfl ?_
              exact ⟨⟨_, rfl, G.out.2.1⟩, G.out.2.2⟩
            · have hi1 : ¬ (i : Int) < (bn : Int) := by omega
              clear hit
              go_wp2
              refine bodyPost_ret (results_row rtP Try.results8 _ _ _ _ rfl G.out.1 rfl) rfl ?_
              exact ⟨⟨_, rfl, G.out.2.1⟩, G.out.2.2⟩
      · have d2 : decide ((cn : Int) > 66) = true := by simp; omega
        have d2' : decide ((66 : Int) < (cn : Int)) = true := by simp; omega
        have q2 : Hid (SlAt eC w0 ca 66 cc (p.cs.take 66)) := H.out.2.2.1.cut kC (by omega)
        have sl2 : ∀ Z : World, (slS 26 (.slice ca cn cc) none (some (.int .i64 66)) none).run Try.prog Z = .ok (.slice ca 66 cc) Z := slC_cut ca cn cc 66 (by omega) H.out.2.2.1.cap
        obtain ⟨V3, s2, v2, g2⟩ := T2.out.var.stC (.slice ca 66 cc) rfl
        have T3 : Hid (TwS w V3 _) := T2.out.set v2 g2
        clear h2 v2 g2
        have TT : Hid (TwS w V3 ⟨x.o, x.k, x.m, (.slice ca 66 cc), x.b⟩) := T3.out
        have HQ : Hid (SlAt eK w0 ka kn kc (p.ks.take 10) ∧ SlAt eM w0 ma mn mc (p.ms.take 66) ∧ SlAt eC w0 ca 66 cc (p.cs.take 66)) := ⟨q0.out, q1.out, q2.out⟩
        have c9 : V3.cell? ⟨w.heap.size, 9, none⟩ = some x.b := TT.out.var.b
        rw [HV.out.2.2.2] at c9
        go_enter Try.func8, Try.ntmps8
        go_wp2_with fail
        clear c0 c1 c2 c9
        go_loopw [3, 4] (fun u v wr => ∃ (i : Nat) (acc : List Mr), i ≤ bn ∧ i ≤ 66 ∧ v = .int .i64 i ∧ acc.length = i ∧ Own eB wr V3.heap.size u acc ∧ Mem w0 acc ((p.bs.take i).map shM) ∧ Below V3.heap.size V3 wr) (fun u v _ => bn - (intOf v).toNat)
        case atStart => exact ⟨0, [], by omega, by omega, rfl, rfl, Own.nil _ _, Mem.nil _, Below.refl _ _⟩
        case round =>
          obtain ⟨i, acc, hi, hj, rfl, ha, hO, hM, hB⟩ := hrel
          have J : Hid (acc.length = i ∧ Own eB wr V3.heap.size u3 acc ∧ Mem w0 acc ((p.bs.take i).map shM) ∧ Below V3.heap.size V3 wr ∧ TwS w wr ⟨x.o, x.k, x.m, (.slice ca 66 cc), x.b⟩) := ⟨ha, hO, hM, hB, TT.out.below hB⟩
          have hi0 : (0 : Int) ≤ (i : Int) := by omega
          have c9 : wr.cell? ⟨w.heap.size, 9, none⟩ = some x.b := J.out.2.2.2.2.var.b
          rw [HV.out.2.2.2] at c9
          clear ha hO hM hB
          by_cases hit : i < bn ∧ i < 66
          · have hi1 : (i : Int) < (bn : Int) := by omega
            have hi2 : (i : Int) < 66 := by omega
            obtain ⟨b, o, rfl⟩ := H.out.2.2.2.1.some' (by omega)
            obtain ⟨y, z, hy, hz, hvz, hps⟩ := H.out.2.2.2.2.get (i := i) (by rw [HL.out.2]; exact hit.1)
            have l0 := lB (H.out.2.2.2.1.below (below_over HB.out J.out.2.2.2.2.bel)) hy
            have X : Hid (p.bs[i]? = some z ∧ y.v = z.v ∧ SlAt eI w0 y.a y.n y.c z.ps) := ⟨hz, hvz, hps⟩
            have HI : Hid (i < bn ∧ i < 66) := hit
            clear hy hz hvz hps hit
            go_wp2_with fail
            refine (short_any y z.ps wr (X.out.2.2.below (below_over HB.out J.out.2.2.2.2.bel))).mono ?_
            rintro _ Y ⟨⟨y', rfl, hv', hs'⟩, bY⟩
            obtain ⟨v', U, aU, oU, bU⟩ := nB (J.out.2.1.below bY) (below_over J.out.2.2.2.1 bY).size (by rw [J.out.1]; omega) y'
            have G : Hid (Own eB U V3.heap.size v' (acc ++ [y']) ∧ Mem w0 (acc ++ [y']) ((p.bs.take (i + 1)).map shM) ∧ Below V3.heap.size V3 U) := by
              refine ⟨oU, ?_, (below_over J.out.2.2.2.1 bY).trans bU⟩
              rw [few_next X.out.1]
              exact J.out.2.2.1.app (Mem.one (hv'.trans X.out.2.1) (hs' w0 X.out.2.2))
            clear oU bU bY hs' hv' l0 c9
            go_wp2
            go_roundw
            case rel => exact ⟨i + 1, acc ++ [y'], by have := HI.out; omega, by have := HI.out; omega, by go_num, by rw [List.length_append, J.out.1]; rfl, G.out.1, G.out.2.1, G.out.2.2⟩
            case measure => have := HI.out; simp [intOf]; omega
          · have E : Hid ((p.bs.take i).map shM = (p.bs.take 66).map shM) := by
              by_cases h6 : i < 66
              · have hl := HL.out.2
                rw [List.take_of_length_le (l := p.bs) (i := i) (by omega), List.take_of_length_le (l := p.bs) (i := 66) (by omega)]
                exact rfl
              · have : i = 66 := by omega
                subst this
                exact rfl
            obtain ⟨V4, s4, g4v, g4⟩ := J.out.2.2.2.2.var.stB u3 J.out.2.1.slv.one
            have T4 : Hid (TwS w V4 ⟨x.o, x.k, x.m, (.slice ca 66 cc), u3⟩) := J.out.2.2.2.2.set g4v g4
            have l4 := T4.out.var.ld
            have O4 : Hid (Own eB V4 V3.heap.size u3 acc) := J.out.2.1.kept g4 (by have := TT.out.siz; omega)
            have P4 : FewK w0 V4 w.heap.size ⟨x.o, x.k, x.m, (.slice ca 66 cc), u3⟩ (fewP p) := ⟨HO.out.1, HO.out.2, (show SlV eK w0 x.k (p.ks.take 10) from by rw [HV.out.1]; exact HQ.out.1.slv), (show SlV eM w0 x.m (p.ms.take 66) from by rw [HV.out.2.1]; exact HQ.out.2.1.slv), HQ.out.2.2.slv, acc, O4.out.mono (by have := TT.out.siz; omega), by show Mem w0 acc ((p.bs.take 66).map shM); rw [← E.out]; exact J.out.2.2.1⟩
            obtain ⟨Z, sZ, pZ, gZ⟩ := T4.out.res.st (y := ⟨x.o, x.k, x.m, (.slice ca 66 cc), u3⟩) (P4.pv (below_over HB.out T4.out.bel)).one
            have bZ : Below w.heap.size w Z := gro T4.out.bel gZ (by omega) T4.out.bel.size
            have G : Hid (PrAt Z (w.heap.size + 1) ⟨x.o, x.k, x.m, (.slice ca 66 cc), u3⟩ ∧ FewK w0 Z w.heap.size ⟨x.o, x.k, x.m, (.slice ca 66 cc), u3⟩ (fewP p) ∧ Below w.heap.size w Z) := ⟨pZ, { P4 with b := ⟨acc, (O4.out.kept gZ (by have := TT.out.siz; omega)).mono (by have := TT.out.siz; omega), by show Mem w0 acc ((p.bs.take 66).map shM); rw [← E.out]; exact J.out.2.2.1⟩ }, bZ⟩
            clear g4v g4 pZ gZ P4 bZ
            by_cases h1 : i < bn
            · have hi1 : (i : Int) < (bn : Int) := by omega
              have hi2 : ¬ (i : Int) < 66 := by omega
              clear hit
              go_wp2
              refine bodyPost_ret (results_row rtP Try.results8 _ _ _ _ rfl G.out.1 rfl) rfl ?_
              exact ⟨⟨_, rfl, G.out.2.1⟩, G.out.2.2⟩
            · have hi1 : ¬ (i : Int) < (bn : Int) := by omega
              clear hit
              go_wp2
              refine bodyPost_ret (results_row rtP Try.results8 _ _ _ _ rfl G.out.1 rfl) rfl ?_
              exact ⟨⟨_, rfl, G.out.2.1⟩, G.out.2.2⟩
    · have d1 : decide ((mn : Int) > 66) = true := by simp; omega
      have d1' : decide ((66 : Int) < (mn : Int)) = true := by simp; omega
      have q1 : Hid (SlAt eM w0 ma 66 mc (p.ms.take 66)) := H.out.2.1.cut kM (by omega)
      have sl1 : ∀ Z : World, (slS 25 (.slice ma mn mc) none (some (.int .i64 66)) none).run Try.prog Z = .ok (.slice ma 66 mc) Z := slM_cut ma mn mc 66 (by omega) H.out.2.1.cap
      obtain ⟨V2, s1, v1, g1⟩ := T1.out.var.stM (.slice ma 66 mc) rfl
      have T2 : Hid (TwS w V2 _) := T1.out.set v1 g1
      clear h1 v1 g1
      have c2 : V2.cell? ⟨w.heap.size, 8, none⟩ = some x.c := T2.out.var.c
      rw [HV.out.2.2.1] at c2
      by_cases h2 : cn ≤ 66
      · have d2 : decide ((cn : Int) > 66) = false := by simp; omega
        have d2' : decide ((66 : Int) < (cn : Int)) = false := by simp; omega
        have q2 : Hid (SlAt eC w0 ca cn cc (p.cs.take 66)) := by rw [List.take_of_length_le (by rw [H.out.2.2.1.len]; exact h2)]; exact H.out.2.2.1
        obtain ⟨V3, rfl⟩ : ∃ z, z = V2 := ⟨_, rfl⟩
        clear h2
        have T3 := T2
        have TT : Hid (TwS w V3 ⟨x.o, x.k, (.slice ma 66 mc), x.c, x.b⟩) := T3.out
        have HQ : Hid (SlAt eK w0 ka kn kc (p.ks.take 10) ∧ SlAt eM w0 ma 66 mc (p.ms.take 66) ∧ SlAt eC w0 ca cn cc (p.cs.take 66)) := ⟨q0.out, q1.out, q2.out⟩
        have c9 : V3.cell? ⟨w.heap.size, 9, none⟩ = some x.b := TT.out.var.b
        rw [HV.out.2.2.2] at c9
        go_enter Try.func8, Try.ntmps8
        go_wp2_with fail
        clear c0 c1 c2 c9
        go_loopw [3, 4] (fun u v wr => ∃ (i : Nat) (acc : List Mr), i ≤ bn ∧ i ≤ 66 ∧ v = .int .i64 i ∧ acc.length = i ∧ Own eB wr V3.heap.size u acc ∧ Mem w0 acc ((p.bs.take i).map shM) ∧ Below V3.heap.size V3 wr) (fun u v _ => bn - (intOf v).toNat)
        case atStart => exact ⟨0, [], by omega, by omega, rfl, rfl, Own.nil _ _, Mem.nil _, Below.refl _ _⟩
        case round =>
          obtain ⟨i, acc, hi, hj, rfl, ha, hO, hM, hB⟩ := hrel
          have J : Hid (acc.length = i ∧ Own eB wr V3.heap.size u3 acc ∧ Mem w0 acc ((p.bs.take i).map shM) ∧ Below V3.heap.size V3 wr ∧ TwS w wr ⟨x.o, x.k, (.slice ma 66 mc), x.c, x.b⟩) := ⟨ha, hO, hM, hB, TT.out.below hB⟩
          have hi0 : (0 : Int) ≤ (i : Int) := by omega
          have c9 : wr.cell? ⟨w.heap.size, 9, none⟩ = some x.b := J.out.2.2.2.2.var.b
          rw [HV.out.2.2.2] at c9
          clear ha hO hM hB
          by_cases hit : i < bn ∧ i < 66
          · have hi1 : (i : Int) < (bn : Int) := by omega
            have hi2 : (i : Int) < 66 := by omega
            obtain ⟨b, o, rfl⟩ := H.out.2.2.2.1.some' (by omega)
            obtain ⟨y, z, hy, hz, hvz, hps⟩ := H.out.2.2.2.2.get (i := i) (by rw [HL.out.2]; exact hit.1)
            have l0 := lB (H.out.2.2.2.1.below (below_over HB.out J.out.2.2.2.2.bel)) hy
            have X : Hid (p.bs[i]? = some z ∧ y.v = z.v ∧ SlAt eI w0 y.a y.n y.c z.ps) := ⟨hz, hvz, hps⟩
            have HI : Hid (i < bn ∧ i < 66) := hit
            clear hy hz hvz hps hit
            go_wp2_with fail
            refine (short_any y z.ps wr (X.out.2.2.below (below_over HB.out J.out.2.2.2.2.bel))).mono ?_
            rintro _ Y ⟨⟨y', rfl, hv', hs'⟩, bY⟩
            obtain ⟨v', U, aU, oU, bU⟩ := nB (J.out.2.1.below bY) (below_over J.out.2.2.2.1 bY).size (by rw [J.out.1]; omega) y'
            have G : Hid (Own eB U V3.heap.size v' (acc ++ [y']) ∧ Mem w0 (acc ++ [y']) ((p.bs.take (i + 1)).map shM) ∧ Below V3.heap.size V3 U) := by
              refine ⟨oU, ?_, (below_over J.out.2.2.2.1 bY).trans bU⟩
              rw [few_next X.out.1]
              exact J.out.2.2.1.app (Mem.one (hv'.trans X.out.2.1) (hs' w0 X.out.2.2))
            clear oU bU bY hs' hv' l0 c9
            go_wp2
            go_roundw
            case rel => exact ⟨i + 1, acc ++ [y'], by have := HI.out; omega, by have := HI.out; omega, by go_num, by rw [List.length_append, J.out.1]; rfl, G.out.1, G.out.2.1, G.out.2.2⟩
            case measure => have := HI.out; simp [intOf]; omega
          · have E : Hid ((p.bs.take i).map shM = (p.bs.take 66).map shM) := by
              by_cases h6 : i < 66
              · have hl := HL.out.2
                rw [List.take_of_length_le (l := p.bs) (i := i) (by omega), List.take_of_length_le (l := p.bs) (i := 66) (by omega)]
                exact rfl
              · have : i = 66 := by omega
                subst this
                exact rfl
            obtain ⟨V4, s4, g4v, g4⟩ := J.out.2.2.2.2.var.stB u3 J.out.2.1.slv.one
            have T4 : Hid (TwS w V4 ⟨x.o, x.k, (.slice ma 66 mc), x.c, u3⟩) := J.out.2.2.2.2.set g4v g4
            have l4 := T4.out.var.ld
            have O4 : Hid (Own eB V4 V3.heap.size u3 acc) := J.out.2.1.kept g4 (by have := TT.out.siz; omega)
            have P4 : FewK w0 V4 w.heap.size ⟨x.o, x.k, (.slice ma 66 mc), x.c, u3⟩ (fewP p) := ⟨HO.out.1, HO.out.2, (show SlV eK w0 x.k (p.ks.take 10) from by rw [HV.out.1]; exact HQ.out.1.slv), HQ.out.2.1.slv, (show SlV eC w0 x.c (p.cs.take 66) from by rw [HV.out.2.2.1]; exact HQ.out.2.2.slv), acc, O4.out.mono (by have := TT.out.siz; omega), by show Mem w0 acc ((p.bs.take 66).map shM); rw [← E.out]; exact J.out.2.2.1⟩
            obtain ⟨Z, sZ, pZ, gZ⟩ := T4.out.res.st (y := ⟨x.o, x.k, (.slice ma 66 mc), x.c, u3⟩) (P4.pv (below_over HB.out T4.out.bel)).one
            have bZ : Below w.heap.size w Z := gro T4.out.bel gZ (by omega) T4.out.bel.size
            have G : Hid (PrAt Z (w.heap.size + 1) ⟨x.o, x.k, (.slice ma 66 mc), x.c, u3⟩ ∧ FewK w0 Z w.heap.size ⟨x.o, x.k, (.slice ma 66 mc), x.c, u3⟩ (fewP p) ∧ Below w.heap.size w Z) := ⟨pZ, { P4 with b := ⟨acc, (O4.out.kept gZ (by have := TT.out.siz; omega)).mono (by have := TT.out.siz; omega), by show Mem w0 acc ((p.bs.take 66).map shM); rw [← E.out]; exact J.out.2.2.1⟩ }, bZ⟩
            clear g4v g4 pZ gZ P4 bZ
            by_cases h1 : i < bn
            · have hi1 : (i : Int) < (bn : Int) := by omega
              have hi2 : ¬ (i : Int) < 66 := by omega
              clear hit
              go_wp2
              refine bodyPost_ret (results_row rtP Try.results8 _ _ _ _ rfl G.out.1 rfl) rfl ?_
              exact ⟨⟨_, rfl, G.out.2.1⟩, G.out.2.2⟩
            · have hi1 : ¬ (i : Int) < (bn : Int) := by omega
              clear hit
              go_wp2
              refine bodyPost_ret (results_row rtP Try.results8 _ _ _ _ rfl G.out.1 rfl) rfl ?_
              exact ⟨⟨_, rfl, G.out.2.1⟩, G.out.2.2⟩
      · have d2 : decide ((cn : Int) > 66) = true := by simp; omega
        have d2' : decide ((66 : Int) < (cn : Int)) = true := by simp; omega
        have q2 : Hid (SlAt eC w0 ca 66 cc (p.cs.take 66)) := H.out.2.2.1.cut kC (by omega)
        have sl2 : ∀ Z : World, (slS 26 (.slice ca cn cc) none (some (.int .i64 66)) none).run Try.prog Z = .ok (.slice ca 66 cc) Z := slC_cut ca cn cc 66 (by omega) H.out.2.2.1.cap
        obtain ⟨V3, s2, v2, g2⟩ := T2.out.var.stC (.slice ca 66 cc) rfl
        have T3 : Hid (TwS w V3 _) := T2.out.set v2 g2
        clear h2 v2 g2
        have TT : Hid (TwS w V3 ⟨x.o, x.k, (.slice ma 66 mc), (.slice ca 66 cc), x.b⟩) := T3.out
        have HQ : Hid (SlAt eK w0 ka kn kc (p.ks.take 10) ∧ SlAt eM w0 ma 66 mc (p.ms.take 66) ∧ SlAt eC w0 ca 66 cc (p.cs.take 66)) := ⟨q0.out, q1.out, q2.out⟩
        have c9 : V3.cell? ⟨w.heap.size, 9, none⟩ = some x.b := TT.out.var.b
        rw [HV.out.2.2.2] at c9
        go_enter Try.func8, Try.ntmps8
        go_wp2_with fail
        clear c0 c1 c2 c9
        go_loopw [3, 4] (fun u v wr => ∃ (i : Nat) (acc : List Mr), i ≤ bn ∧ i ≤ 66 ∧ v = .int .i64 i ∧ acc.length = i ∧ Own eB wr V3.heap.size u acc ∧ Mem w0 acc ((p.bs.take i).map shM) ∧ Below V3.heap.size V3 wr) (fun u v _ => bn - (intOf v).toNat)
        case atStart => exact ⟨0, [], by omega, by omega, rfl, rfl, Own.nil _ _, Mem.nil _, Below.refl _ _⟩
        case round =>
          obtain ⟨i, acc, hi, hj, rfl, ha, hO, hM, hB⟩ := hrel
          have J : Hid (acc.length = i ∧ Own eB wr V3.heap.size u3 acc ∧ Mem w0 acc ((p.bs.take i).map shM) ∧ Below V3.heap.size V3 wr ∧ TwS w wr ⟨x.o, x.k, (.slice ma 66 mc), (.slice ca 66 cc), x.b⟩) := ⟨ha, hO, hM, hB, TT.out.below hB⟩
          have hi0 : (0 : Int) ≤ (i : Int) := by omega
          have c9 : wr.cell? ⟨w.heap.size, 9, none⟩ = some x.b := J.out.2.2.2.2.var.b
          rw [HV.out.2.2.2] at c9
          clear ha hO hM hB
          by_cases hit : i < bn ∧ i < 66
          · have hi1 : (i : Int) < (bn : Int) := by omega
            have hi2 : (i : Int) < 66 := by omega
            obtain ⟨b, o, rfl⟩ := H.out.2.2.2.1.some' (by omega)
            obtain ⟨y, z, hy, hz, hvz, hps⟩ := H.out.2.2.2.2.get (i := i) (by rw [HL.out.2]; exact hit.1)
            have l0 := lB (H.out.2.2.2.1.below (below_over HB.out J.out.2.2.2.2.bel)) hy
            have X : Hid (p.bs[i]? = some z ∧ y.v = z.v ∧ SlAt eI w0 y.a y.n y.c z.ps) := ⟨hz, hvz, hps⟩
            have HI : Hid (i < bn ∧ i < 66) := hit
            clear hy hz hvz hps hit
            go_wp2_with fail
            refine (short_any y z.ps wr (X.out.2.2.below (below_over HB.out J.out.2.2.2.2.bel))).mono ?_
            rintro _ Y ⟨⟨y', rfl, hv', hs'⟩, bY⟩
            obtain ⟨v', U, aU, oU, bU⟩ := nB (J.out.2.1.below bY) (below_over J.out.2.2.2.1 bY).size (by rw [J.out.1]; omega) y'
            have G : Hid (Own eB U V3.heap.size v' (acc ++ [y']) ∧ Mem w0 (acc ++ [y']) ((p.bs.take (i + 1)).map shM) ∧ Below V3.heap.size V3 U) := by
              refine ⟨oU, ?_, (below_over J.out.2.2.2.1 bY).trans bU⟩
              rw [few_next X.out.1]
              exact J.out.2.2.1.app (Mem.one (hv'.trans X.out.2.1) (hs' w0 X.out.2.2))
            clear oU bU bY hs' hv' l0 c9
            go_wp2
            go_roundw
            case rel => exact ⟨i + 1, acc ++ [y'], by have := HI.out; omega, by have := HI.out; omega, by go_num, by rw [List.length_append, J.out.1]; rfl, G.out.1, G.out.2.1, G.out.2.2⟩
            case measure => have := HI.out; simp [intOf]; omega
          · have E : Hid ((p.bs.take i).map shM = (p.bs.take 66).map shM) := by
              by_cases h6 : i < 66
              · have hl := HL.out.2
                rw [List.take_of_length_le (l := p.bs) (i := i) (by omega), List.take_of_length_le (l := p.bs) (i := 66) (by omega)]
                exact rfl
              · have : i = 66 := by omega
                subst this
                exact rfl
            obtain ⟨V4, s4, g4v, g4⟩ := J.out.2.2.2.2.var.stB u3 J.out.2.1.slv.one
            have T4 : Hid (TwS w V4 ⟨x.o, x.k, (.slice ma 66 mc), (.slice ca 66 cc), u3⟩) := J.out.2.2.2.2.set g4v g4
            have l4 := T4.out.var.ld
            have O4 : Hid (Own eB V4 V3.heap.size u3 acc) := J.out.2.1.kept g4 (by have := TT.out.siz; omega)
            have P4 : FewK w0 V4 w.heap.size ⟨x.o, x.k, (.slice ma 66 mc), (.slice ca 66 cc), u3⟩ (fewP p) := ⟨HO.out.1, HO.out.2, (show SlV eK w0 x.k (p.ks.take 10) from by rw [HV.out.1]; exact HQ.out.1.slv), HQ.out.2.1.slv, HQ.out.2.2.slv, acc, O4.out.mono (by have := TT.out.siz; omega), by show Mem w0 acc ((p.bs.take 66).map shM); rw [← E.out]; exact J.out.2.2.1⟩
            obtain ⟨Z, sZ, pZ, gZ⟩ := T4.out.res.st (y := ⟨x.o, x.k, (.slice ma 66 mc), (.slice ca 66 cc), u3⟩) (P4.pv (below_over HB.out T4.out.bel)).one
            have bZ : Below w.heap.size w Z := gro T4.out.bel gZ (by omega) T4.out.bel.size
            have G : Hid (PrAt Z (w.heap.size + 1) ⟨x.o, x.k, (.slice ma 66 mc), (.slice ca 66 cc), u3⟩ ∧ FewK w0 Z w.heap.size ⟨x.o, x.k, (.slice ma 66 mc), (.slice ca 66 cc), u3⟩ (fewP p) ∧ Below w.heap.size w Z) := ⟨pZ, { P4 with b := ⟨acc, (O4.out.kept gZ (by have := TT.out.siz; omega)).mono (by have := TT.out.siz; omega), by show Mem w0 acc ((p.bs.take 66).map shM); rw [← E.out]; exact J.out.2.2.1⟩ }, bZ⟩
            clear g4v g4 pZ gZ P4 bZ
            by_cases h1 : i < bn
            · have hi1 : (i : Int) < (bn : Int) := by omega
              have hi2 : ¬ (i : Int) < 66 := by omega
              clear hit
              go_wp2
              refine bodyPost_ret (results_row rtP Try.results8 _ _ _ _ rfl G.out.1 rfl) rfl ?_
              exact ⟨⟨_, rfl, G.out.2.1⟩, G.out.2.2⟩
            · have hi1 : ¬ (i : Int) < (bn : Int) := by omega
              clear hit
              go_wp2
              refine bodyPost_ret (results_row rtP Try.results8 _ _ _ _ rfl G.out.1 rfl) rfl ?_
              exact ⟨⟨_, rfl, G.out.2.1⟩, G.out.2.2⟩
  · have d0 : decide ((kn : Int) > 10) = true := by simp; omega
    have d0' : decide ((10 : Int) < (kn : Int)) = true := by simp; omega
    have q0 : Hid (SlAt eK w0 ka 10 kc (p.ks.take 10)) := H.out.1.cut kK (by omega)
    have sl0 : ∀ Z : World, (slS 24 (.slice ka kn kc) none (some (.int .i64 10)) none).run Try.prog Z = .ok (.slice ka 10 kc) Z := slK_cut ka kn kc 10 (by omega) H.out.1.cap
    obtain ⟨V1, s0, v0, g0⟩ := T0.out.var.stK (.slice ka 10 kc) rfl
    have T1 : Hid (TwS w V1 _) := T0.out.set v0 g0
    clear h0 v0 g0
    have c1 : V1.cell? ⟨w.heap.size, 7, none⟩ = some x.m := T1.out.var.m
    rw [HV.out.2.1] at c1
    by_cases h1 : mn ≤ 66
    · have d1 : decide ((mn : Int) > 66) = false := by simp; omega
      have d1' : decide ((66 : Int) < (mn : Int)) = false := by simp; omega
      have q1 : Hid (SlAt eM w0 ma mn mc (p.ms.take 66)) := by rw [List.take_of_length_le (by rw [H.out.2.1.len]; exact h1)]; exact H.out.2.1
      obtain ⟨V2, rfl⟩ : ∃ z, z = V1 := ⟨_, rfl⟩
      clear h1
      have T2 := T1
      have c2 : V2.cell? ⟨w.heap.size, 8, none⟩ = some x.c := T2.out.var.c
      rw [HV.out.2.2.1] at c2
      by_cases h2 : cn ≤ 66
      · have d2 : decide ((cn : Int) > 66) = false := by simp; omega
        have d2' : decide ((66 : Int) < (cn : Int)) = false := by simp; omega
        have q2 : Hid (SlAt eC w0 ca cn cc (p.cs.take 66)) := by rw [List.take_of_length_le (by rw [H.out.2.2.1.len]; exact h2)]; exact H.out.2.2.1
        obtain ⟨V3, rfl⟩ : ∃ z, z = V2 := ⟨_, rfl⟩
        clear h2
        have T3 := T2
        have TT : Hid (TwS w V3 ⟨x.o, (.slice ka 10 kc), x.m, x.c, x.b⟩) := T3.out
        have HQ : Hid (SlAt eK w0 ka 10 kc (p.ks.take 10) ∧ SlAt eM w0 ma mn mc (p.ms.take 66) ∧ SlAt eC w0 ca cn cc (p.cs.take 66)) := ⟨q0.out, q1.out, q2.out⟩
        have c9 : V3.cell? ⟨w.heap.size, 9, none⟩ = some x.b := TT.out.var.b
        rw [HV.out.2.2.2] at c9
        go_enter Try.func8, Try.ntmps8
        go_wp2_with fail
        clear c0 c1 c2 c9
        go_loopw [3, 4] (fun u v wr => ∃ (i : Nat) (acc : List Mr), i ≤ bn ∧ i ≤ 66 ∧ v = .int .i64 i ∧ acc.length = i ∧ Own eB wr V3.heap.size u acc ∧ Mem w0 acc ((p.bs.take i).map shM) ∧ Below V3.heap.size V3 wr) (fun u v _ => bn - (intOf v).toNat)
        case atStart => exact ⟨0, [], by omega, by omega, rfl, rfl, Own.nil _ _, Mem.nil _, Below.refl _ _⟩
        case round =>
          obtain ⟨i, acc, hi, hj, rfl, ha, hO, hM, hB⟩ := hrel
          have J : Hid (acc.length = i ∧ Own eB wr V3.heap.size u3 acc ∧ Mem w0 acc ((p.bs.take i).map shM) ∧ Below V3.heap.size V3 wr ∧ TwS w wr ⟨x.o, (.slice ka 10 kc), x.m, x.c, x.b⟩) := ⟨ha, hO, hM, hB, TT.out.below hB⟩
          have hi0 : (0 : Int) ≤ (i : Int) := by omega
          have c9 : wr.cell? ⟨w.heap.size, 9, none⟩ = some x.b := J.out.2.2.2.2.var.b
          rw [HV.out.2.2.2] at c9
          clear ha hO hM hB
          by_cases hit : i < bn ∧ i < 66
          · have hi1 : (i : Int) < (bn : Int) := by omega
            have hi2 : (i : Int) < 66 := by omega
            obtain ⟨b, o, rfl⟩ := H.out.2.2.2.1.some' (by omega)
            obtain ⟨y, z, hy, hz, hvz, hps⟩ := H.out.2.2.2.2.get (i := i) (by rw [HL.out.2]; exact hit.1)
            have l0 := lB (H.out.2.2.2.1.below (below_over HB.out J.out.2.2.2.2.bel)) hy
            have X : Hid (p.bs[i]? = some z ∧ y.v = z.v ∧ SlAt eI w0 y.a y.n y.c z.ps) := ⟨hz, hvz, hps⟩
            have HI : Hid (i < bn ∧ i < 66) := hit
            clear hy hz hvz hps hit
            go_wp2_with fail
            refine (short_any y z.ps wr (X.out.2.2.below (below_over HB.out J.out.2.2.2.2.bel))).mono ?_
            rintro _ Y ⟨⟨y', rfl, hv', hs'⟩, bY⟩
            obtain ⟨v', U, aU, oU, bU⟩ := nB (J.out.2.1.below bY) (below_over J.out.2.2.2.1 bY).size (by rw [J.out.1]; omega) y'
            have G : Hid (Own eB U V3.heap.size v' (acc ++ [y']) ∧ Mem w0 (acc ++ [y']) ((p.bs.take (i + 1)).map shM) ∧ Below V3.heap.size V3 U) := by
              refine ⟨oU, ?_, (below_over J.out.2.2.2.1 bY).trans bU⟩
              rw [few_next X.out.1]
              exact J.out.2.2.1.app (Mem.one (hv'.trans X.out.2.1) (hs' w0 X.out.2.2))
            clear oU bU bY hs' hv' l0 c9
            go_wp2
            go_roundw
            case rel => exact ⟨i + 1, acc ++ [y'], by have := HI.out; omega, by have := HI.out; omega, by go_num, by rw [List.length_append, J.out.1]; rfl, G.out.1, G.out.2.1, G.out.2.2⟩
            case measure => have := HI.out; simp [intOf]; omega
          · have E : Hid ((p.bs.take i).map shM = (p.bs.take 66).map shM) := by
              by_cases h6 : i < 66
              · have hl := HL.out.2
                rw [List.take_of_length_le (l := p.bs) (i := i) (by omega), List.take_of_length_le (l := p.bs) (i := 66) (by omega)]
                exact rfl
              · have : i = 66 := by omega
                subst this
                exact rfl
            obtain ⟨V4, s4, g4v, g4⟩ := J.out.2.2.2.2.var.stB u3 J.out.2.1.slv.one
            have T4 : Hid (TwS w V4 ⟨x.o, (.slice ka 10 kc), x.m, x.c, u3⟩) := J.out.2.2.2.2.set g4v g4
            have l4 := T4.out.var.ld
            have O4 : Hid (Own eB V4 V3.heap.size u3 acc) := J.out.2.1.kept g4 (by have := TT.out.siz; omega)
            have P4 : FewK w0 V4 w.heap.size ⟨x.o, (.slice ka 10 kc), x.m, x.c, u3⟩ (fewP p) := ⟨HO.out.1, HO.out.2, HQ.out.1.slv, (show SlV eM w0 x.m (p.ms.take 66) from by rw [HV.out.2.1]; exact HQ.out.2.1.slv), (show SlV eC w0 x.c (p.cs.take 66) from by rw [HV.out.2.2.1]; exact HQ.out.2.2.slv), acc, O4.out.mono (by have := TT.out.siz; omega), by show Mem w0 acc ((p.bs.take 66).map shM); rw [← E.out]; exact J.out.2.2.1⟩
            obtain ⟨Z, sZ, pZ, gZ⟩ := T4.out.res.st (y := ⟨x.o, (.slice ka 10 kc), x.m, x.c, u3⟩) (P4.pv (below_over HB.out T4.out.bel)).one
            have bZ : Below w.heap.size w Z := gro T4.out.bel gZ (by omega) T4.out.bel.size
            have G : Hid (PrAt Z (w.heap.size + 1) ⟨x.o, (.slice ka 10 kc), x.m, x.c, u3⟩ ∧ FewK w0 Z w.heap.size ⟨x.o, (.slice ka 10 kc), x.m, x.c, u3⟩ (fewP p) ∧ Below w.heap.size w Z) := ⟨pZ, { P4 with b := ⟨acc, (O4.out.kept gZ (by have := TT.out.siz; omega)).mono (by have := TT.out.siz; omega), by show Mem w0 acc ((p.bs.take 66).map shM); rw [← E.out]; exact J.out.2.2.1⟩ }, bZ⟩
            clear g4v g4 pZ gZ P4 bZ
            by_cases h1 : i < bn
            · have hi1 : (i : Int) < (bn : Int) := by omega
              have hi2 : ¬ (i : Int) < 66 := by omega
              clear hit
              go_wp2
              refine bodyPost_ret (results_row rtP Try.results8 _ _ _ _ rfl G.out.1 rfl) rfl ?_
              exact ⟨⟨_, rfl, G.out.2.1⟩, G.out.2.2⟩
            · have hi1 : ¬ (i : Int) < (bn : Int) := by omega
              clear hit
              go_wp2
              refine bodyPost_ret (results_row rtP Try.results8 _ _ _ _ rfl G.out.1 rfl) rfl ?_
              exact ⟨⟨_, rfl, G.out.2.1⟩, G.out.2.2⟩
      · have d2 : decide ((cn : Int) > 66) = true := by simp; omega
        have d2' : decide ((66 : Int) < (cn : Int)) = true := by simp; omega
        have q2 : Hid (SlAt eC w0 ca 66 cc (p.cs.take 66)) := H.out.2.2.1.cut kC (by omega)
        have sl2 : ∀ Z : World, (slS 26 (.slice ca cn cc) none (some (.int .i64 66)) none).run Try.prog Z = .ok (.slice ca 66 cc) Z := slC_cut ca cn cc 66 (by omega) H.out.2.2.1.cap
        obtain ⟨V3, s2, v2, g2⟩ := T2.out.var.stC (.slice ca 66 cc) rfl
        have T3 : Hid (TwS w V3 _) := T2.out.set v2 g2
        clear h2 v2 g2
        have TT : Hid (TwS w V3 ⟨x.o, (.slice ka 10 kc), x.m, (.slice ca 66 cc), x.b⟩) := T3.out
        have HQ : Hid (SlAt eK w0 ka 10 kc (p.ks.take 10) ∧ SlAt eM w0 ma mn mc (p.ms.take 66) ∧ SlAt eC w0 ca 66 cc (p.cs.take 66)) := ⟨q0.out, q1.out, q2.out⟩
        have c9 : V3.cell? ⟨w.heap.size, 9, none⟩ = some x.b := TT.out.var.b
        rw [HV.out.2.2.2] at c9
        go_enter Try.func8, Try.ntmps8
        go_wp2_with fail
        clear c0 c1 c2 c9
        go_loopw [3, 4] (fun u v wr => ∃ (i : Nat) (acc : List Mr), i ≤ bn ∧ i ≤ 66 ∧ v = .int .i64 i ∧ acc.length = i ∧ Own eB wr V3.heap.size u acc ∧ Mem w0 acc ((p.bs.take i).map shM) ∧ Below V3.heap.size V3 wr) (fun u v _ => bn - (intOf v).toNat)
        case atStart => exact ⟨0, [], by omega, by omega, rfl, rfl, Own.nil _ _, Mem.nil _, Below.refl _ _⟩
        case round =>
          obtain ⟨i, acc, hi, hj, rfl, ha, hO, hM, hB⟩ := hrel
          have J : Hid (acc.length = i ∧ Own eB wr V3.heap.size u3 acc ∧ Mem w0 acc ((p.bs.take i).map shM) ∧ Below V3.heap.size V3 wr ∧ TwS w wr ⟨x.o, (.slice ka 10 kc), x.m, (.slice ca 66 cc), x.b⟩) := ⟨ha, hO, hM, hB, TT.out.below hB⟩
          have hi0 : (0 : Int) ≤ (i : Int) := by omega
          have c9 : wr.cell? ⟨w.heap.size, 9, none⟩ = some x.b := J.out.2.2.2.2.var.b
          rw [HV.out.2.2.2] at c9
          clear ha hO hM hB
          by_cases hit : i < bn ∧ i < 66
          · have hi1 : (i : Int) < (bn : Int) := by omega
            have hi2 : (i : Int) < 66 := by omega
            obtain ⟨b, o, rfl⟩ := H.out.2.2.2.1.some' (by omega)
            obtain ⟨y, z, hy, hz, hvz, hps⟩ := H.out.2.2.2.2.get (i := i) (by rw [HL.out.2]; exact hit.1)
            have l0 := lB (H.out.2.2.2.1.below (below_over HB.out J.out.2.2.2.2.bel)) hy
            have X : Hid (p.bs[i]? = some z ∧ y.v = z.v ∧ SlAt eI w0 y.a y.n y.c z.ps) := ⟨hz, hvz, hps⟩
            have HI : Hid (i < bn ∧ i < 66) := hit
            clear hy hz hvz hps hit
            go_wp2_with fail
            refine (short_any y z.ps wr (X.out.2.2.below (below_over HB.out J.out.2.2.2.2.bel))).mono ?_
            rintro _ Y ⟨⟨y', rfl, hv', hs'⟩, bY⟩
            obtain ⟨v', U, aU, oU, bU⟩ := nB (J.out.2.1.below bY) (below_over J.out.2.2.2.1 bY).size (by rw [J.out.1]; omega) y'
            have G : Hid (Own eB U V3.heap.size v' (acc ++ [y']) ∧ Mem w0 (acc ++ [y']) ((p.bs.take (i + 1)).map shM) ∧ Below V3.heap.size V3 U) := by
              refine ⟨oU, ?_, (below_over J.out.2.2.2.1 bY).trans bU⟩
              rw [few_next X.out.1]
              exact J.out.2.2.1.app (Mem.one (hv'.trans X.out.2.1) (hs' w0 X.out.2.2))
            clear oU bU bY hs' hv' l0 c9
            go_wp2
            go_roundw
            case rel => exact ⟨i + 1, acc ++ [y'], by have := HI.out; omega, by have := HI.out; omega, by go_num, by rw [List.length_append, J.out.1]; rfl, G.out.1, G.out.2.1, G.out.2.2⟩
            case measure => have := HI.out; simp [intOf]; omega
          · have E : Hid ((p.bs.take i).map shM = (p.bs.take 66).map shM) := by
              by_cases h6 : i < 66
              · have hl := HL.out.2
                rw [List.take_of_length_le (l := p.bs) (i := i) (by omega), List.take_of_length_le (l := p.bs) (i := 66) (by omega)]
                exact rfl
              · have : i = 66 := by omega
                subst this
                exact rfl
            obtain ⟨V4, s4, g4v, g4⟩ := J.out.2.2.2.2.var.stB u3 J.out.2.1.slv.one
            have T4 : Hid (TwS w V4 ⟨x.o, (.slice ka 10 kc), x.m, (.slice ca 66 cc), u3⟩) := J.out.2.2.2.2.set g4v g4
            have l4 := T4.out.var.ld
            have O4 : Hid (Own eB V4 V3.heap.size u3 acc) := J.out.2.1.kept g4 (by have := TT.out.siz; omega)
            have P4 : FewK w0 V4 w.heap.size ⟨x.o, (.slice ka 10 kc), x.m, (.slice ca 66 cc), u3⟩ (fewP p) := ⟨HO.out.1, HO.out.2, HQ.out.1.slv, (show SlV eM w0 x.m (p.ms.take 66) from by rw [HV.out.2.1]; exact HQ.out.2.1.slv), HQ.out.2.2.slv, acc, O4.out.mono (by have := TT.out.siz; omega), by show Mem w0 acc ((p.bs.take 66).map shM); rw [← E.out]; exact J.out.2.2.1⟩
            obtain ⟨Z, sZ, pZ, gZ⟩ := T4.out.res.st (y := ⟨x.o, (.slice ka 10 kc), x.m, (.slice ca 66 cc), u3⟩) (P4.pv (below_over HB.out T4.out.bel)).one
            have bZ : Below w.heap.size w Z := gro T4.out.bel gZ (by omega) T4.out.bel.size
            have G : Hid (PrAt Z (w.heap.size + 1) ⟨x.o, (.slice ka 10 kc), x.m, (.slice ca 66 cc), u3⟩ ∧ FewK w0 Z w.heap.size ⟨x.o, (.slice ka 10 kc), x.m, (.slice ca 66 cc), u3⟩ (fewP p) ∧ Below w.heap.size w Z) := ⟨pZ, { P4 with b := ⟨acc, (O4.out.kept gZ (by have := TT.out.siz; omega)).mono (by have := TT.out.siz; omega), by show Mem w0 acc ((p.bs.take 66).map shM); rw [← E.out]; exact J.out.2.2.1⟩ }, bZ⟩
            clear g4v g4 pZ gZ P4 bZ
            by_cases h1 : i < bn
            · have hi1 : (i : Int) < (bn : Int) := by omega
              have hi2 : ¬ (i : Int) < 66 := by omega
              clear hit
              go_wp2
              refine bodyPost_ret (results_row rtP Try.results8 _ _ _ _ rfl G.out.1 rfl) rfl ?_
              exact ⟨⟨_, rfl, G.out.2.1⟩, G.out.2.2⟩
            · have hi1 : ¬ (i : Int) < (bn : Int) := by omega
              clear hit
              go_wp2
              refine bodyPost_ret (results_row rtP Try.results8 _ _ _ _ rfl G.out.1 rfl) rfl ?_
              exact ⟨⟨_, rfl, G.out.2.1⟩, G.out.2.2⟩
    · have d1 : decide ((mn : Int) > 66) = true := by simp; omega
      have d1' : decide ((66 : Int) < (mn : Int)) = true := by simp; omega
      have q1 : Hid (SlAt eM w0 ma 66 mc (p.ms.take 66)) := H.out.2.1.cut kM (by omega)
      have sl1 : ∀ Z : World, (slS 25 (.slice ma mn mc) none (some (.int .i64 66)) none).run Try.prog Z = .ok (.slice ma 66 mc) Z := slM_cut ma mn mc 66 (by omega) H.out.2.1.cap
      obtain ⟨V2, s1, v1, g1⟩ := T1.out.var.stM (.slice ma 66 mc) rfl
      have T2 : Hid (TwS w V2 _) := T1.out.set v1 g1
      clear h1 v1 g1
      have c2 : V2.cell? ⟨w.heap.size, 8, none⟩ = some x.c := T2.out.var.c
      rw [HV.out.2.2.1] at c2
      by_cases h2 : cn ≤ 66
      · have d2 : decide ((cn : Int) > 66) = false := by simp; omega
        have d2' : decide ((66 : Int) < (cn : Int)) = false := by simp; omega
        have q2 : Hid (SlAt eC w0 ca cn cc (p.cs.take 66)) := by rw [List.take_of_length_le (by rw [H.out.2.2.1.len]; exact h2)]; exact H.out.2.2.1
        obtain ⟨V3, rfl⟩ : ∃ z, z = V2 := ⟨_, rfl⟩
        clear h2
        have T3 := T2
        have TT : Hid (TwS w V3 ⟨x.o, (.slice ka 10 kc), (.slice ma 66 mc), x.c, x.b⟩) := T3.out
        have HQ : Hid (SlAt eK w0 ka 10 kc (p.ks.take 10) ∧ SlAt eM w0 ma 66 mc (p.ms.take 66) ∧ SlAt eC w0 ca cn cc (p.cs.take 66)) := ⟨q0.out, q1.out, q2.out⟩
        have c9 : V3.cell? ⟨w.heap.size, 9, none⟩ = some x.b := TT.out.var.b
        rw [HV.out.2.2.2] at c9
        go_enter Try.func8, Try.ntmps8
        go_wp2_with fail
        clear c0 c1 c2 c9
        go_loopw [3, 4] (fun u v wr => ∃ (i : Nat) (acc : List Mr), i ≤ bn ∧ i ≤ 66 ∧ v = .int .i64 i ∧ acc.length = i ∧ Own eB wr V3.heap.size u acc ∧ Mem w0 acc ((p.bs.take i).map shM) ∧ Below V3.heap.size V3 wr) (fun u v _ => bn - (intOf v).toNat)
        case atStart => exact ⟨0, [], by omega, by omega, rfl, rfl, Own.nil _ _, Mem.nil _, Below.refl _ _⟩
        case round =>
          obtain ⟨i, acc, hi, hj, rfl, ha, hO, hM, hB⟩ := hrel
          have J : Hid (acc.length = i ∧ Own eB wr V3.heap.size u3 acc ∧ Mem w0 acc ((p.bs.take i).map shM) ∧ Below V3.heap.size V3 wr ∧ TwS w wr ⟨x.o, (.slice ka 10 kc), (.slice ma 66 mc), x.c, x.b⟩) := ⟨ha, hO, hM, hB, TT.out.below hB⟩
          have hi0 : (0 : Int) ≤ (i : Int) := by omega
          have c9 : wr.cell? ⟨w.heap.size, 9, none⟩ = some x.b := J.out.2.2.2.2.var.b
          rw [HV.out.2.2.2] at c9
          clear ha hO hM hB
          by_cases hit : i < bn ∧ i < 66
          · have hi1 : (i : Int) < (bn : Int) := by omega
            have hi2 : (i : Int) < 66 := by omega
            obtain ⟨b, o, rfl⟩ := H.out.2.2.2.1.some' (by omega)
            obtain ⟨y, z, hy, hz, hvz, hps⟩ := H.out.2.2.2.2.get (i := i) (by rw [HL.out.2]; exact hit.1)
            have l0 := lB (H.out.2.2.2.1.below (below_over HB.out J.out.2.2.2.2.bel)) hy
            have X : Hid (p.bs[i]? = some z ∧ y.v = z.v ∧ SlAt eI w0 y.a y.n y.c z.ps) := ⟨hz, hvz, hps⟩
            have HI : Hid (i < bn ∧ i < 66) := hit
            clear hy hz hvz hps hit
            go_wp2_with fail
            refine (short_any y z.ps wr (X.out.2.2.below (below_over HB.out J.out.2.2.2.2.bel))).mono ?_
            rintro _ Y ⟨⟨y', rfl, hv', hs'⟩, bY⟩
            obtain ⟨v', U, aU, oU, bU⟩ := nB (J.out.2.1.below bY) (below_over J.out.2.2.2.1 bY).size (by rw [J.out.1]; omega) y'
            have G : Hid (Own eB U V3.heap.size v' (acc ++ [y']) ∧ Mem w0 (acc ++ [y']) ((p.bs.take (i + 1)).map shM) ∧ Below V3.heap.size V3 U) := by
              refine ⟨oU, ?_, (below_over J.out.2.2.2.1 bY).trans bU⟩
              rw [few_next X.out.1]
              exact J.out.2.2.1.app (Mem.one (hv'.trans X.out.2.1) (hs' w0 X.out.2.2))
            clear oU bU bY hs' hv' l0 c9
            go_wp2
            go_roundw
            case rel => exact ⟨i + 1, acc ++ [y'], by have := HI.out; omega, by have := HI.out; omega, by go_num, by rw [List.length_append, J.out.1]; rfl, G.out.1, G.out.2.1, G.out.2.2⟩
            case measure => have := HI.out; simp [intOf]; omega
          · have E : Hid ((p.bs.take i).map shM = (p.bs.take 66).map shM) := by
              by_cases h6 : i < 66
              · have hl := HL.out.2
                rw [List.take_of_length_le (l := p.bs) (i := i) (by omega), List.take_of_length_le (l := p.bs) (i := 66) (by omega)]
                exact rfl
              · have : i = 66 := by omega
                subst this
                exact rfl
            obtain ⟨V4, s4, g4v, g4⟩ := J.out.2.2.2.2.var.stB u3 J.out.2.1.slv.one
            have T4 : Hid (TwS w V4 ⟨x.o, (.slice ka 10 kc), (.slice ma 66 mc), x.c, u3⟩) := J.out.2.2.2.2.set g4v g4
            have l4 := T4.out.var.ld
            have O4 : Hid (Own eB V4 V3.heap.size u3 acc) := J.out.2.1.kept g4 (by have := TT.out.siz; omega)
            have P4 : FewK w0 V4 w.heap.size ⟨x.o, (.slice ka 10 kc), (.slice ma 66 mc), x.c, u3⟩ (fewP p) := ⟨HO.out.1, HO.out.2, HQ.out.1.slv, HQ.out.2.1.slv, (show SlV eC w0 x.c (p.cs.take 66) from by rw [HV.out.2.2.1]; exact HQ.out.2.2.slv), acc, O4.out.mono (by have := TT.out.siz; omega), by show Mem w0 acc ((p.bs.take 66).map shM); rw [← E.out]; exact J.out.2.2.1⟩
            obtain ⟨Z, sZ, pZ, gZ⟩ := T4.out.res.st (y := ⟨x.o, (.slice ka 10 kc), (.slice ma 66 mc), x.c, u3⟩) (P4.pv (below_over HB.out T4.out.bel)).one
            have bZ : Below w.heap.size w Z := gro T4.out.bel gZ (by omega) T4.out.bel.size
            have G : Hid (PrAt Z (w.heap.size + 1) ⟨x.o, (.slice ka 10 kc), (.slice ma 66 mc), x.c, u3⟩ ∧ FewK w0 Z w.heap.size ⟨x.o, (.slice ka 10 kc), (.slice ma 66 mc), x.c, u3⟩ (fewP p) ∧ Below w.heap.size w Z) := ⟨pZ, { P4 with b := ⟨acc, (O4.out.kept gZ (by have := TT.out.siz; omega)).mono (by have := TT.out.siz; omega), by show Mem w0 acc ((p.bs.take 66).map shM); rw [← E.out]; exact J.out.2.2.1⟩ }, bZ⟩
            clear g4v g4 pZ gZ P4 bZ
            by_cases h1 : i < bn
            · have hi1 : (i : Int) < (bn : Int) := by omega
              have hi2 : ¬ (i : Int) < 66 := by omega
              clear hit
              go_wp2
              refine bodyPost_ret (results_row rtP Try.results8 _ _ _ _ rfl G.out.1 rfl) rfl ?_
              exact ⟨⟨_, rfl, G.out.2.1⟩, G.out.2.2⟩
            · have hi1 : ¬ (i : Int) < (bn : Int) := by omega
              clear hit
              go_wp2
              refine bodyPost_ret (results_row rtP Try.results8 _ _ _ _ rfl G.out.1 rfl) rfl ?_
              exact ⟨⟨_, rfl, G.out.2.1⟩, G.out.2.2⟩
      · have d2 : decide ((cn : Int) > 66) = true := by simp; omega
        have d2' : decide ((66 : Int) < (cn : Int)) = true := by simp; omega
        have q2 : Hid (SlAt eC w0 ca 66 cc (p.cs.take 66)) := H.out.2.2.1.cut kC (by omega)
        have sl2 : ∀ Z : World, (slS 26 (.slice ca cn cc) none (some (.int .i64 66)) none).run Try.prog Z = .ok (.slice ca 66 cc) Z := slC_cut ca cn cc 66 (by omega) H.out.2.2.1.cap
        obtain ⟨V3, s2, v2, g2⟩ := T2.out.var.stC (.slice ca 66 cc) rfl
        have T3 : Hid (TwS w V3 _) := T2.out.set v2 g2
        clear h2 v2 g2
        have TT : Hid (TwS w V3 ⟨x.o, (.slice ka 10 kc), (.slice ma 66 mc), (.slice ca 66 cc), x.b⟩) := T3.out
        have HQ : Hid (SlAt eK w0 ka 10 kc (p.ks.take 10) ∧ SlAt eM w0 ma 66 mc (p.ms.take 66) ∧ SlAt eC w0 ca 66 cc (p.cs.take 66)) := ⟨q0.out, q1.out, q2.out⟩
        have c9 : V3.cell? ⟨w.heap.size, 9, none⟩ = some x.b := TT.out.var.b
        rw [HV.out.2.2.2] at c9
        go_enter Try.func8, Try.ntmps8
        go_wp2_with fail
        clear c0 c1 c2 c9
        go_loopw [3, 4] (fun u v wr => ∃ (i : Nat) (acc : List Mr), i ≤ bn ∧ i ≤ 66 ∧ v = .int .i64 i ∧ acc.length = i ∧ Own eB wr V3.heap.size u acc ∧ Mem w0 acc ((p.bs.take i).map shM) ∧ Below V3.heap.size V3 wr) (fun u v _ => bn - (intOf v).toNat)
        case atStart => exact ⟨0, [], by omega, by omega, rfl, rfl, Own.nil _ _, Mem.nil _, Below.refl _ _⟩
        case round =>
          obtain ⟨i, acc, hi, hj, rfl, ha, hO, hM, hB⟩ := hrel
          have J : Hid (acc.length = i ∧ Own eB wr V3.heap.size u3 acc ∧ Mem w0 acc ((p.bs.take i).map shM) ∧ Below V3.heap.size V3 wr ∧ TwS w wr ⟨x.o, (.slice ka 10 kc), (.slice ma 66 mc), (.slice ca 66 cc), x.b⟩) := ⟨ha, hO, hM, hB, TT.out.below hB⟩
          have hi0 : (0 : Int) ≤ (i : Int) := by omega
          have c9 : wr.cell? ⟨w.heap.size, 9, none⟩ = some x.b := J.out.2.2.2.2.var.b
          rw [HV.out.2.2.2] at c9
          clear ha hO hM hB
          by_cases hit : i < bn ∧ i < 66
          · have hi1 : (i : Int) < (bn : Int) := by omega
            have hi2 : (i : Int) < 66 := by omega
            obtain ⟨b, o, rfl⟩ := H.out.2.2.2.1.some' (by omega)
            obtain ⟨y, z, hy, hz, hvz, hps⟩ := H.out.2.2.2.2.get (i := i) (by rw [HL.out.2]; exact hit.1)
            have l0 := lB (H.out.2.2.2.1.below (below_over HB.out J.out.2.2.2.2.bel)) hy
            have X : Hid (p.bs[i]? = some z ∧ y.v = z.v ∧ SlAt eI w0 y.a y.n y.c z.ps) := ⟨hz, hvz, hps⟩
            have HI : Hid (i < bn ∧ i < 66) := hit
            clear hy hz hvz hps hit
            go_wp2_with fail
            refine (short_any y z.ps wr (X.out.2.2.below (below_over HB.out J.out.2.2.2.2.bel))).mono ?_
            rintro _ Y ⟨⟨y', rfl, hv', hs'⟩, bY⟩
            obtain ⟨v', U, aU, oU, bU⟩ := nB (J.out.2.1.below bY) (below_over J.out.2.2.2.1 bY).size (by rw [J.out.1]; omega) y'
            have G : Hid (Own eB U V3.heap.size v' (acc ++ [y']) ∧ Mem w0 (acc ++ [y']) ((p.bs.take (i + 1)).map shM) ∧ Below V3.heap.size V3 U) := by
              refine ⟨oU, ?_, (below_over J.out.2.2.2.1 bY).trans bU⟩
              rw [few_next X.out.1]
              exact J.out.2.2.1.app (Mem.one (hv'.trans X.out.2.1) (hs' w0 X.out.2.2))
            clear oU bU bY hs' hv' l0 c9
            go_wp2
            go_roundw
            case rel => exact ⟨i + 1, acc ++ [y'], by have := HI.out; omega, by have := HI.out; omega, by go_num, by rw [List.length_append, J.out.1]; rfl, G.out.1, G.out.2.1, G.out.2.2⟩
            case measure => have := HI.out; simp [intOf]; omega
          · have E : Hid ((p.bs.take i).map shM = (p.bs.take 66).map shM) := by
              by_cases h6 : i < 66
              · have hl := HL.out.2
                rw [List.take_of_length_le (l := p.bs) (i := i) (by omega), List.take_of_length_le (l := p.bs) (i := 66) (by omega)]
                exact rfl
              · have : i = 66 := by omega
                subst this
                exact rfl
            obtain ⟨V4, s4, g4v, g4⟩ := J.out.2.2.2.2.var.stB u3 J.out.2.1.slv.one
            have T4 : Hid (TwS w V4 ⟨x.o, (.slice ka 10 kc), (.slice ma 66 mc), (.slice ca 66 cc), u3⟩) := J.out.2.2.2.2.set g4v g4
            have l4 := T4.out.var.ld
            have O4 : Hid (Own eB V4 V3.heap.size u3 acc) := J.out.2.1.kept g4 (by have := TT.out.siz; omega)
            have P4 : FewK w0 V4 w.heap.size ⟨x.o, (.slice ka 10 kc), (.slice ma 66 mc), (.slice ca 66 cc), u3⟩ (fewP p) := ⟨HO.out.1, HO.out.2, HQ.out.1.slv, HQ.out.2.1.slv, HQ.out.2.2.slv, acc, O4.out.mono (by have := TT.out.siz; omega), by show Mem w0 acc ((p.bs.take 66).map shM); rw [← E.out]; exact J.out.2.2.1⟩
            obtain ⟨Z, sZ, pZ, gZ⟩ := T4.out.res.st (y := ⟨x.o, (.slice ka 10 kc), (.slice ma 66 mc), (.slice ca 66 cc), u3⟩) (P4.pv (below_over HB.out T4.out.bel)).one
            have bZ : Below w.heap.size w Z := gro T4.out.bel gZ (by omega) T4.out.bel.size
            have G : Hid (PrAt Z (w.heap.size + 1) ⟨x.o, (.slice ka 10 kc), (.slice ma 66 mc), (.slice ca 66 cc), u3⟩ ∧ FewK w0 Z w.heap.size ⟨x.o, (.slice ka 10 kc), (.slice ma 66 mc), (.slice ca 66 cc), u3⟩ (fewP p) ∧ Below w.heap.size w Z) := ⟨pZ, { P4 with b := ⟨acc, (O4.out.kept gZ (by have := TT.out.siz; omega)).mono (by have := TT.out.siz; omega), by show Mem w0 acc ((p.bs.take 66).map shM); rw [← E.out]; exact J.out.2.2.1⟩ }, bZ⟩
            clear g4v g4 pZ gZ P4 bZ
            by_cases h1 : i < bn
            · have hi1 : (i : Int) < (bn : Int) := by omega
              have hi2 : ¬ (i : Int) < 66 := by omega
              clear hit
              go_wp2
              refine bodyPost_ret (results_row rtP Try.results8 _ _ _ _ rfl G.out.1 rfl) rfl ?_
              exact ⟨⟨_, rfl, G.out.2.1⟩, G.out.2.2⟩
            · have hi1 : ¬ (i : Int) < (bn : Int) := by omega
              clear hit
              go_wp2
              refine bodyPost_ret (results_row rtP Try.results8 _ _ _ _ rfl G.out.1 rfl) rfl ?_
              exact ⟨⟨_, rfl, G.out.2.1⟩, G.out.2.2⟩
theorem few_any (x : Pr) (p : Pv) (w : World) (h : IsPv w x p) :
    Calls Try.prog 8 #[.agg x.cs] w fun r w' => (∃ y : Pr, r = .returned (.agg y.cs) ∧ IsPv w' y (fewP p)) ∧ Below w.heap.size w w' := by
  refine (few_at x p w w h (Below.refl _ _)).mono ?_
  rintro r w' ⟨⟨y, hr, hy⟩, hb⟩
  exact ⟨⟨y, hr, hy.pv hb⟩, hb⟩
end Go.Proofs.Ytgjagedngdhdaaa
