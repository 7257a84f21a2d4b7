/-
  What the definition does with a command that sets a member: the walk of setMember, for every input.
-/
import Derived.Test.YtgjagedngdhdaaaRad
import Derived.Test.YtgjagedngdhdaaaJ31En
namespace Go.Proofs.Ytgjagedngdhdaaa
set_option linter.unusedVariables false
set_option maxRecDepth 4000
set_option linter.unusedSimpArgs false
open Go.RowKit
attribute [local go_sem ↓] ldM stM ldC stC ldB stB ldP stP apI bsI
attribute [local go_sem] bsI_is bsI2_is

attribute [local go_sem ↓] stIs stKs stMs stCs stBs ldD stD eqgM eqgC neqM neqC eqlM eqlC apM apC apB bsM bsC bsB
attribute [local go_sem] bsM_is bsC_is bsB_is
attribute [local go_sem] bzI
def setRr (x : Mr) : List Mr → List Mr
  | [] => [x]
  | y :: l => if x.v ≤ y.v then x :: (y :: l).filter (fun z => x.v != z.v) else y :: setRr x l
theorem al_set {R : Mr → Mb → Prop} {x : Mr} {y : Mb} (hx : R x y) (hv : ∀ a b, R a b → a.v = b.v) : ∀ {r : List Mr} {l : List Mb}, Al R r l → Al R (setRr x r) (setR y l)
  | [], [], _ => ⟨hx, trivial⟩
  | a :: r, b :: l, h => by
    rw [setRr, setR, hv _ _ hx, hv _ _ h.1]
    split
    · refine ⟨hx, Al.fil (r := a :: r) (l := b :: l) (fun c d h => by rw [hv _ _ h]) h⟩
    · exact ⟨h.1, al_set hx hv h.2⟩
  | [], _ :: _, h => h.elim
  | _ :: _, [], h => h.elim
def setD (d : Bool) (x : Mr) (l : List Mr) : List Mr := if d then l.filter (fun z => x.v != z.v) else setRr x l
theorem setD_tk {x : Mr} {l : List Mr} {i : Nat} {y : Mr} (h : l[i]? = some y) (hb : (x.v != y.v) = true) : setD true x (l.drop i) = [y] ++ setD true x (l.drop (i + 1)) := by
  show (l.drop i).filter _ = [y] ++ (l.drop (i + 1)).filter _
  rw [drop_at h, List.filter_cons, if_pos hb]
  rfl
theorem setD_td {x : Mr} {l : List Mr} {i : Nat} {y : Mr} (h : l[i]? = some y) (hb : (x.v != y.v) = false) : setD true x (l.drop i) = setD true x (l.drop (i + 1)) := by
  show (l.drop i).filter _ = (l.drop (i + 1)).filter _
  rw [drop_at h, List.filter_cons, if_neg (by rw [hb]; decide)]
theorem setD_y {x : Mr} {l : List Mr} {i : Nat} {y : Mr} (h : l[i]? = some y) (hb : x.v ≤ y.v) : setD false x (l.drop i) = [x] ++ setD true x (l.drop i) := by
  show setRr x (l.drop i) = [x] ++ (l.drop i).filter _
  rw [drop_at h, setRr, if_pos hb]
  rfl
theorem setD_n {x : Mr} {l : List Mr} {i : Nat} {y : Mr} (h : l[i]? = some y) (hb : ¬ x.v ≤ y.v) : setD false x (l.drop i) = [y] ++ setD false x (l.drop (i + 1)) := by
  show setRr x (l.drop i) = [y] ++ setRr x (l.drop (i + 1))
  rw [drop_at h, setRr, if_neg hb]
  rfl
theorem setD_ef {x : Mr} {l : List Mr} {i : Nat} (h : l.length ≤ i) : setD false x (l.drop i) = [x] := by
  rw [drop_end h]
  rfl
theorem setD_et {x : Mr} {l : List Mr} {i : Nat} (h : l.length ≤ i) : setD true x (l.drop i) = [] := by
  rw [drop_end h]
  rfl
theorem mem_kept {V V' w : World} {x : Pr} {p : Pv} {r : List Mr} {l : List Mb} (h : Mem V r l) (hr : PrAt V w.heap.size x) (hx : IsPv w x p) (hb : Below w.heap.size w V) (hg : V.grownBy V' (some w.heap.size)) : Mem V' r l :=
  ⟨h.len, fun i a b ha hb' => ⟨(h.at' i a b ha hb').1, (h.at' i a b ha hb').2.keptV kI (fun u => ⟨u, rfl⟩) hr (pr_no (hx.below hb)) hg⟩⟩
theorem zp_is (V : World) : IsPv V zP ⟨⟨0, 0, 0, 0, 0, 0⟩, [], [], [], []⟩ := ⟨rfl, (show O6.wf ⟨0, 0, 0, 0, 0, 0⟩ from by unfold O6.wf; decide), SlV.none' _, SlV.none' _, SlV.none' _, [], SlV.none' _, Mem.nil _⟩
theorem mem_keptz {V V' : World} {g : Nat} {r : List Mr} {l : List Mb} (h : Mem V r l) (hr : PrAt V g zP) (hg : V.grownBy V' (some g)) : Mem V' r l :=
  ⟨h.len, fun i a b ha hb' => ⟨(h.at' i a b ha hb').1, (h.at' i a b ha hb').2.keptV kI (fun u => ⟨u, rfl⟩) hr (pr_no (zp_is V)) hg⟩⟩
set_option maxHeartbeats 16000000 in
theorem rset_any (x : Pr) (p : Pv) (y : Mr) (z : Mb) (w : World) (h : IsPv w x p) (hz : Sz p) (hy : y.v = z.v) (hp : SlAt eI w y.a y.n y.c z.ps) (hl : z.ps.length ≤ 1000) :
    Calls Try.prog 78 #[.agg x.cs, .agg y.cs] w fun r w' => RdT w (whn p { p with bs := setR z p.bs } (rsB p z)) r w' := by
  obtain ⟨rr, ⟨a, n, c, hv, hs⟩, bm⟩ := h.b
  obtain ⟨ka, kn, kc, kv, ks⟩ := h.k
  obtain ⟨W, V, V0, hW, hV, hU, S0, zW, zV⟩ := RdS.new w x 76 y.cs
  have T0 : Hid (RdS w V0 x 76 y.cs) := S0
  have H : Hid (IsPv w x p ∧ SlAt eB w a n c rr ∧ rr.length = n ∧ x.b = .slice a n c ∧ Sz p ∧ SlAt eK w ka kn kc p.ks ∧ p.ks.length = kn ∧ x.k = .slice ka kn kc ∧ Mem w rr p.bs ∧ y.v = z.v ∧ SlAt eI w y.a y.n y.c z.ps ∧ z.ps.length = y.n ∧ z.ps.length ≤ 1000) := ⟨h, hs, hs.len, hv, hz, ks, ks.len, kv, bm, hy, hp, hp.len, hl⟩
  have hnn := hs.int
  have hkn := ks.int
  have hyn := hp.int
  have hn100 : n ≤ 100 := by rw [← hs.len, bm.len]; exact hz.2.2.2.1
  clear S0 h hs hv hz ks kv bm hy hp hl
  obtain ⟨t0, h0⟩ : ∃ zz, isV y.v = zz := ⟨_, rfl⟩
  have QV : Hid (isV y.v = t0 ∧ isV z.v = t0) := ⟨h0, by rw [← H.out.2.2.2.2.2.2.2.2.2.1]; exact h0⟩
  obtain ⟨t1, h1⟩ : ∃ zz, ris ltI z.ps = zz := ⟨_, rfl⟩
  have QS : Hid (ris ltI z.ps = t1) := h1
  clear h0 h1
  go_enter Try.func78, Try.ntmps78
  have f0 := T0.out.var.ld
  have f0a := (show MrAt V0 (w.heap.size + 1) y from T0.out.arg).c0
  have f0b := (show MrAt V0 (w.heap.size + 1) y from T0.out.arg).c1
  go_wp2_with fail
  refine (ret_b (rvid_any y.v V0) QV.out.1).mono ?_
  rintro _ V1 ⟨rfl, hb⟩
  have T1 : Hid (RdS w V1 x 76 y.cs) := T0.out.below hb
  clear hb f0 f0a f0b
  cases t0
  · skip
    have E0 : rsB p z = 1 := by unfold rsB; simp [QV.out.2, QS.out]
    have E : Hid (whn p { p with bs := setR z p.bs } (rsB p z) = (p, 1)) := by rw [E0]; exact rfl
    clear E0
    have f1 := T1.out.var.ld
    have f1a := (show MrAt V1 (w.heap.size + 1) y from T1.out.arg).c0
    have f1b := (show MrAt V1 (w.heap.size + 1) y from T1.out.arg).c1
    obtain ⟨Z, sZ, pZ, gZ, bZ⟩ := T1.out.tell H.out.1.one
    have G : Hid (PrAt Z (w.heap.size + 2) x ∧ IsPv Z x p ∧ Below w.heap.size w Z) := ⟨pZ, H.out.1.below bZ, bZ⟩
    clear pZ gZ bZ
    have l9 := T1.out.var.ld
    go_wp2
    exact ret_pe Try.results78 rfl rfl rfl G.out.1 (by show RdT w _ _ _; rw [E.out]; exact ⟨⟨_, rfl, G.out.2.1⟩, G.out.2.2⟩)
  · skip
    have f1 := T1.out.var.ld
    have f1a := (show MrAt V1 (w.heap.size + 1) y from T1.out.arg).c0
    have f1b := (show MrAt V1 (w.heap.size + 1) y from T1.out.arg).c1
    go_wp2_with fail
    refine (ret_b (rise_any y.a y.n y.c z.ps V1 (H.out.2.2.2.2.2.2.2.2.2.2.1.below T1.out.bel)) QS.out).mono ?_
    rintro _ V2 ⟨rfl, hb⟩
    have T2 : Hid (RdS w V2 x 76 y.cs) := T1.out.below hb
    clear hb f1 f1a f1b
    cases t1
    · skip
      have E0 : rsB p z = 1 := by unfold rsB; simp [QV.out.2, QS.out]
      have E : Hid (whn p { p with bs := setR z p.bs } (rsB p z) = (p, 1)) := by rw [E0]; exact rfl
      clear E0
      have f2 := T2.out.var.ld
      have f2a := (show MrAt V2 (w.heap.size + 1) y from T2.out.arg).c0
      have f2b := (show MrAt V2 (w.heap.size + 1) y from T2.out.arg).c1
      obtain ⟨Z, sZ, pZ, gZ, bZ⟩ := T2.out.tell H.out.1.one
      have G : Hid (PrAt Z (w.heap.size + 2) x ∧ IsPv Z x p ∧ Below w.heap.size w Z) := ⟨pZ, H.out.1.below bZ, bZ⟩
      clear pZ gZ bZ
      have l9 := T2.out.var.ld
      go_wp2
      exact ret_pe Try.results78 rfl rfl rfl G.out.1 (by show RdT w _ _ _; rw [E.out]; exact ⟨⟨_, rfl, G.out.2.1⟩, G.out.2.2⟩)
    · skip
      have f2 := T2.out.var.ld
      have f2a := (show MrAt V2 (w.heap.size + 1) y from T2.out.arg).c0
      have f2b := (show MrAt V2 (w.heap.size + 1) y from T2.out.arg).c1
      obtain ⟨R, hR⟩ : ∃ zz, z.ps.all (hasP p) = zz := ⟨_, rfl⟩
      have HR : Hid (z.ps.all (hasP p) = R) := hR
      clear hR
      go_wp2_with fail
      clear f2 f2a f2b
      go_loopw [6] (fun v wr => ∃ i : Nat, i ≤ y.n ∧ v = .int .i64 i ∧ R = (z.ps.drop i).all (hasP p) ∧ Below V2.heap.size V2 wr) (fun v _ => y.n - (intOf v).toNat)
      case atStart => exact ⟨0, by omega, rfl, HR.out.symm, Below.refl _ _⟩
      case round =>
        obtain ⟨i, hi, rfl, hf, hB⟩ := hrel
        have J : Hid (R = (z.ps.drop i).all (hasP p) ∧ Below V2.heap.size V2 wr) := ⟨hf, hB⟩
        have TJ : Hid (RdS w wr x 76 y.cs) := T2.out.below hB
        have hi0 : (0 : Int) ≤ (i : Int) := by omega
        have c1 := (show MrAt wr (w.heap.size + 1) y from TJ.out.arg).c1
        clear hf hB
        by_cases hit : i < y.n
        · have hi1 : (i : Int) < (y.n : Int) := by omega
          obtain ⟨b, o, hbo⟩ := H.out.2.2.2.2.2.2.2.2.2.2.1.some' (by omega)
          obtain ⟨u, hu⟩ := lt_nth (l := z.ps) (i := i) (by rw [H.out.2.2.2.2.2.2.2.2.2.2.2.1]; exact hit)
          have HX : Hid (z.ps[i]? = some u) := hu
          have HS : Hid (SlAt eI w (some ⟨b, o, none⟩) y.n y.c z.ps) := by rw [← hbo]; exact H.out.2.2.2.2.2.2.2.2.2.2.1
          have k0 := fun q : Later wr => lI ((HS.out.below TJ.out.bel).below q.below) HX.out
          have k1 := fun q : Later wr => ((show MrAt wr (w.heap.size + 1) y from TJ.out.arg).below q.below).c1
          rw [hbo] at k1 c1
          have k2 := fun q : Later wr => (TJ.out.below q.below).var.k
          rw [H.out.2.2.2.2.2.2.2.1] at k2
          clear hu hbo
          by_cases h2 : u < 0
          · have d2 : decide (u < 0) = true := by simpa using h2
            have N : Hid (z.ps.all (hasP p) = false) := by rw [HR.out, J.out.1, all_no HX.out (by unfold hasP; rw [decide_eq_false (by omega)]; rfl)]; exact rfl
            clear h2
            go_wp2_with fail
            clear c1
            refine wp_region_later (by kernel_rfl) (by kernel_rfl) ?_
            repeat (go_big_quiet_step (first | exact rfl))
            refine wpQuiet_nil ?_
            intro _ hw'
            obtain ⟨q, rfl⟩ := hw'
            clear k0 k1 k2
            have TQ : Hid (RdS w q.val x 76 y.cs) := TJ.out.below q.below
            have E0 : rsB p z = 5 := by unfold rsB; simp [QV.out.2, QS.out, N.out]
            have E : Hid (whn p { p with bs := setR z p.bs } (rsB p z) = (p, 5)) := by rw [E0]; exact rfl
            clear E0
            obtain ⟨Z, sZ, pZ, gZ, bZ⟩ := TQ.out.tell H.out.1.one
            have G : Hid (PrAt Z (w.heap.size + 2) x ∧ IsPv Z x p ∧ Below w.heap.size w Z) := ⟨pZ, H.out.1.below bZ, bZ⟩
            clear pZ gZ bZ
            have l9 := TQ.out.var.ld
            go_wp2
            exact ret_pe Try.results78 rfl rfl rfl G.out.1 (by show RdT w _ _ _; rw [E.out]; exact ⟨⟨_, rfl, G.out.2.1⟩, G.out.2.2⟩)
          · have d2 : decide (u < 0) = false := by simpa using h2
            by_cases h3 : (kn : Int) ≤ u
            · have d3 : decide (u ≥ (kn : Int)) = true := by simpa using h3
              have d3' : decide ((kn : Int) ≤ u) = true := by simpa using h3
              have N : Hid (z.ps.all (hasP p) = false) := by rw [HR.out, J.out.1, all_no HX.out (by unfold hasP; rw [H.out.2.2.2.2.2.2.1, decide_eq_false (p := u < (kn : Int)) (by omega), Bool.and_false])]; exact rfl
              clear h2 h3
              go_wp2_with fail
              clear c1
              refine wp_region_later (by kernel_rfl) (by kernel_rfl) ?_
              repeat (go_big_quiet_step (first | exact rfl))
              refine wpQuiet_nil ?_
              intro _ hw'
              obtain ⟨q, rfl⟩ := hw'
              clear k0 k1 k2
              have TQ : Hid (RdS w q.val x 76 y.cs) := TJ.out.below q.below
              have E0 : rsB p z = 5 := by unfold rsB; simp [QV.out.2, QS.out, N.out]
              have E : Hid (whn p { p with bs := setR z p.bs } (rsB p z) = (p, 5)) := by rw [E0]; exact rfl
              clear E0
              obtain ⟨Z, sZ, pZ, gZ, bZ⟩ := TQ.out.tell H.out.1.one
              have G : Hid (PrAt Z (w.heap.size + 2) x ∧ IsPv Z x p ∧ Below w.heap.size w Z) := ⟨pZ, H.out.1.below bZ, bZ⟩
              clear pZ gZ bZ
              have l9 := TQ.out.var.ld
              go_wp2
              exact ret_pe Try.results78 rfl rfl rfl G.out.1 (by show RdT w _ _ _; rw [E.out]; exact ⟨⟨_, rfl, G.out.2.1⟩, G.out.2.2⟩)
            · have d3 : decide (u ≥ (kn : Int)) = false := by simpa using h3
              have d3' : decide ((kn : Int) ≤ u) = false := by simpa using h3
              have E : Hid (R = (z.ps.drop (i + 1)).all (hasP p)) := by rw [J.out.1, all_yes HX.out (by unfold hasP; rw [H.out.2.2.2.2.2.2.1, decide_eq_true (p := 0 ≤ u) (by omega), decide_eq_true (p := u < (kn : Int)) (by omega)]; rfl)]; exact rfl
              clear h2 h3
              go_wp2_with fail
              clear c1
              refine wp_region_later (by kernel_rfl) (by kernel_rfl) ?_
              repeat (go_big_quiet_step (first | exact rfl))
              refine wpQuiet_nil ?_
              intro _ hw'
              obtain ⟨q, rfl⟩ := hw'
              clear k0 k1 k2
              have TQ : Hid (RdS w q.val x 76 y.cs) := TJ.out.below q.below
              go_wp2
              go_roundw
              case rel => exact ⟨i + 1, by omega, by go_num, E.out, below_later J.out.2 q⟩
              case measure => simp [intOf]; omega
        · have hi1 : ¬ (i : Int) < (y.n : Int) := by omega
          have N : Hid (z.ps.all (hasP p) = true) := by rw [HR.out, J.out.1, all_end (by rw [H.out.2.2.2.2.2.2.2.2.2.2.2.1]; omega)]; exact rfl
          clear hit hi
          obtain ⟨V3, hV3⟩ : ∃ z, wr = z := ⟨_, rfl⟩
          rw [hV3] at TJ c1
          rw [hV3]
          have T3 : Hid (RdS w V3 x 76 y.cs) := TJ.out
          clear J TJ hV3
          obtain ⟨t2, h2⟩ : ∃ zz, z.ps.all (fun i => isK p i 2) = zz := ⟨_, rfl⟩
          have QA : Hid (z.ps.all (fun i => isK p i 2) = t2) := h2
          clear h2
          have f3 := T3.out.var.ld
          have f3a := (show MrAt V3 (w.heap.size + 1) y from T3.out.arg).c0
          have f3b := (show MrAt V3 (w.heap.size + 1) y from T3.out.arg).c1
          go_wp2_with fail
          refine (ret_b (are_any x p y.a y.n y.c z.ps 2 V3 (H.out.1.below T3.out.bel) (H.out.2.2.2.2.2.2.2.2.2.2.1.below T3.out.bel)) QA.out).mono ?_
          rintro _ V4 ⟨rfl, hb⟩
          have T4 : Hid (RdS w V4 x 76 y.cs) := T3.out.below hb
          clear hb f3 f3a f3b c1
          cases t2
          · skip
            have E0 : rsB p z = 184 := by unfold rsB; simp [QV.out.2, QS.out, N.out, QA.out]
            have E : Hid (whn p { p with bs := setR z p.bs } (rsB p z) = (p, 184)) := by rw [E0]; exact rfl
            clear E0
            have f4 := T4.out.var.ld
            have f4a := (show MrAt V4 (w.heap.size + 1) y from T4.out.arg).c0
            have f4b := (show MrAt V4 (w.heap.size + 1) y from T4.out.arg).c1
            obtain ⟨Z, sZ, pZ, gZ, bZ⟩ := T4.out.tell H.out.1.one
            have G : Hid (PrAt Z (w.heap.size + 2) x ∧ IsPv Z x p ∧ Below w.heap.size w Z) := ⟨pZ, H.out.1.below bZ, bZ⟩
            clear pZ gZ bZ
            have l9 := T4.out.var.ld
            go_wp2
            exact ret_pe Try.results78 rfl rfl rfl G.out.1 (by show RdT w _ _ _; rw [E.out]; exact ⟨⟨_, rfl, G.out.2.1⟩, G.out.2.2⟩)
          · skip
            have f4 := T4.out.var.ld
            have f4a := (show MrAt V4 (w.heap.size + 1) y from T4.out.arg).c0
            have f4b := (show MrAt V4 (w.heap.size + 1) y from T4.out.arg).c1
            obtain ⟨X0, hX0⟩ : ∃ z, V4.alloc (.cells #[] 3) = z := ⟨_, rfl⟩
            have bX0 : Below V4.heap.size V4 X0 := by rw [← hX0]; exact (Below.refl _ _).alloc (Nat.le_refl _) _
            have oX0 : Own eI X0 V4.heap.size (.slice (some ⟨V4.heap.size, 0, none⟩) 0 0) [] := by rw [← hX0]; exact Own.zero kI V4
            have fx := (show MrAt X0 (w.heap.size + 1) y from (T4.out.below bX0).arg).c1
            obtain ⟨v1, X1, aX1, oX1, gX1⟩ := oX0.app kI (H.out.2.2.2.2.2.2.2.2.2.2.1.below (T4.out.below bX0).bel) (by have := H.out.2.2.2.2.2.2.2.2.2.2.2.2; simp; omega) bX0.size 61
            have aX1 : (apS 61 61 #[.slice (some ⟨V4.heap.size, 0, none⟩) 0 0, .slice y.a y.n y.c]).run Try.prog X0 = .ok v1 X1 := aX1
            rw [List.nil_append] at oX1
            have bX1 : Below V4.heap.size V4 X1 := bX0.trans (below_of_grown gX1 bX0.size (fun j e => by cases e; exact Nat.le_refl _))
            obtain ⟨pa, pc, rfl, ps1, _⟩ := oX1.form
            have TX1 := T4.out.below bX1
            obtain ⟨V5, s5, m5, g5⟩ := (show MrAt X1 (w.heap.size + 1) y from TX1.arg).stP pa z.ps.length pc
            obtain ⟨pn, hpn⟩ : ∃ zz, z.ps.length = zz := ⟨_, rfl⟩
            obtain ⟨y', hy'⟩ : ∃ zz : Mr, (⟨y.v, pa, pn, pc⟩ : Mr) = zz := ⟨_, rfl⟩
            have T5 : Hid (RdS w V5 x 76 y'.cs ∧ y'.v = z.v ∧ SlAt eI V5 y'.a y'.n y'.c z.ps) := by
              rw [← hy', ← hpn]
              refine ⟨TX1.seta m5 g5, H.out.2.2.2.2.2.2.2.2.2.1, ?_⟩
              obtain ⟨_, _, e5, q5, _⟩ := (oX1.kept g5 (by have := T4.out.siz; omega)).form
              cases e5
              exact q5
            rw [hpn] at aX1 s5
            clear bX0 oX0 oX1 gX1 bX1 ps1 TX1 m5 g5 hy' hpn
            have c7 := T5.out.1.var.b
            rw [H.out.2.2.2.1] at c7
            obtain ⟨R3, hR3⟩ : ∃ zz, setRr y' rr = zz := ⟨_, rfl⟩
            have HR3 : Hid (R3 = [] ++ setD false y' (rr.drop 0) ∧ setRr y' rr = R3) := ⟨hR3.symm, hR3⟩
            have MB : Hid (∀ Y : World, Below V5.heap.size V5 Y → Mem Y R3 (setR z p.bs)) := fun Y hY => by
              rw [← HR3.out.2]
              exact (al_mem (al_set (R := fun x y => x.v = y.v ∧ SlAt eI V5 x.a x.n x.c y.ps) ⟨T5.out.2.1, T5.out.2.2⟩ (fun a b h => h.1) (mem_al (H.out.2.2.2.2.2.2.2.2.1.below T5.out.1.bel)))).below hY
            clear hR3
            go_wp2_with fail
            clear f4 f4a f4b c7 aX1 s5 fx
            go_loopw [7, 8, 9] (fun u d v wr => ∃ (i : Nat) (acc : List Mr) (D : Bool), i ≤ n ∧ v = .int .i64 i ∧ d = .bool D ∧ R3 = acc ++ setD D y' (rr.drop i) ∧ acc.length ≤ i + D.toNat ∧ Own eB wr V5.heap.size u acc ∧ Below V5.heap.size V5 wr) (fun u d v _ => n - (intOf v).toNat)
            case atStart => exact ⟨0, [], false, by omega, rfl, rfl, HR3.out.1, by simp, Own.nil _ _, Below.refl _ _⟩
            case round =>
              obtain ⟨i, acc, D, hi, rfl, rfl, hf, ha, hO, hB⟩ := hrel
              have J : Hid (R3 = acc ++ setD D y' (rr.drop i) ∧ acc.length ≤ i + D.toNat ∧ Own eB wr V5.heap.size u7 acc ∧ Below V5.heap.size V5 wr) := ⟨hf, ha, hO, hB⟩
              have TJ : Hid (RdS w wr x 76 y'.cs) := T5.out.1.below hB
              have hi0 : (0 : Int) ≤ (i : Int) := by omega
              have c1 := TJ.out.var.b
              rw [H.out.2.2.2.1] at c1
              clear hf ha hO hB
              by_cases hit : i < n
              · have hi1 : (i : Int) < (n : Int) := by omega
                obtain ⟨b, o, rfl⟩ := H.out.2.1.some' (by omega)
                obtain ⟨u, hu⟩ := lt_nth (l := rr) (i := i) (by rw [H.out.2.2.1]; exact hit)
                have HX : Hid (rr[i]? = some u) := hu
                clear hu
                cases D
                · skip
                  have k0 := fun qq : Later wr => ((show MrAt wr (w.heap.size + 1) y' from TJ.out.arg).below qq.below).c0
                  have k1 := fun qq : Later wr => (TJ.out.below qq.below).var.b
                  rw [H.out.2.2.2.1] at k1
                  have k2 := fun qq : Later wr => lB0 ((H.out.2.1.below TJ.out.bel).below qq.below) HX.out
                  by_cases hb : y'.v ≤ u.v
                  · have d1 : decide (y'.v ≤ u.v) = true := by simpa using hb
                    have ER : Hid (R3 = (acc ++ [y']) ++ setD true y' (rr.drop i)) := by rw [J.out.1, setD_y HX.out hb, List.append_assoc]; exact rfl
                    clear hb
                    go_wp2_with fail
                    clear c1
                    refine wp_region_later (by kernel_rfl) (by kernel_rfl) ?_
                    repeat (go_big_quiet_step (first | exact rfl))
                    refine wpQuiet_nil ?_
                    intro _ hw'
                    obtain ⟨q, rfl⟩ := hw'
                    clear k0 k1 k2
                    have TQ : Hid (RdS w q.val x 76 y'.cs) := TJ.out.below q.below
                    have OQ : Hid (Own eB q.val V5.heap.size u7 (acc) ∧ Below V5.heap.size V5 q.val) := ⟨J.out.2.2.1.below q.below, below_over J.out.2.2.2 q.below⟩
                    have c3 := (show MrAt q.val (w.heap.size + 1) y' from TQ.out.arg).ld
                    obtain ⟨v1, X1, aX1, oX1, bX1⟩ := nB OQ.out.1 OQ.out.2.size (by have := J.out.2.1; simp at this ⊢; omega) y'
                    have OX1 : Hid (Own eB X1 V5.heap.size v1 (acc ++ [y']) ∧ Below V5.heap.size V5 X1) := ⟨oX1, OQ.out.2.trans bX1⟩
                    have TX1 : Hid (RdS w X1 x 76 y'.cs) := T5.out.1.below OX1.out.2
                    clear oX1 bX1
                    have k0 := fun qq : Later X1 => ((show MrAt X1 (w.heap.size + 1) y' from TX1.out.arg).below qq.below).c0
                    have k1 := fun qq : Later X1 => (TX1.out.below qq.below).var.b
                    rw [H.out.2.2.2.1] at k1
                    have k2 := fun qq : Later X1 => lB0 ((H.out.2.1.below TX1.out.bel).below qq.below) HX.out
                    by_cases hk : y'.v = u.v
                    · have e1 : (y'.v != u.v) = false := by simp [hk]
                      have E : Hid (R3 = (acc ++ [y']) ++ setD true y' (rr.drop (i + 1))) := by rw [ER.out, setD_td HX.out e1]; exact rfl
                      clear hk
                      go_wp2_with fail
                      skip
                      refine wp_region_later (by kernel_rfl) (by kernel_rfl) ?_
                      repeat (go_big_quiet_step (first | exact rfl))
                      refine wpQuiet_nil ?_
                      intro _ hw'
                      obtain ⟨s, rfl⟩ := hw'
                      clear k0 k1 k2
                      have TS : Hid (RdS w s.val x 76 y'.cs) := TX1.out.below s.below
                      have OS : Hid (Own eB s.val V5.heap.size v1 (acc ++ [y']) ∧ Below V5.heap.size V5 s.val) := ⟨OX1.out.1.below s.below, below_over OX1.out.2 s.below⟩
                      go_wp2
                      go_roundw
                      case rel => exact ⟨i + 1, acc ++ [y'], true, by omega, by go_num, rfl, E.out, by have := J.out.2.1; simp at this ⊢; omega, OS.out.1, OS.out.2⟩
                      case measure => simp [intOf]; omega
                    · have e1 : (y'.v != u.v) = true := by simp [hk]
                      have E : Hid (R3 = (acc ++ [y'] ++ [u]) ++ setD true y' (rr.drop (i + 1))) := by rw [ER.out, setD_tk HX.out e1, List.append_assoc (acc ++ [y'])]; exact rfl
                      clear hk
                      go_wp2_with fail
                      skip
                      refine wp_region_later (by kernel_rfl) (by kernel_rfl) ?_
                      repeat (go_big_quiet_step (first | exact rfl))
                      refine wpQuiet_nil ?_
                      intro _ hw'
                      obtain ⟨s, rfl⟩ := hw'
                      clear k0 k1 k2
                      have TS : Hid (RdS w s.val x 76 y'.cs) := TX1.out.below s.below
                      have OS : Hid (Own eB s.val V5.heap.size v1 (acc ++ [y']) ∧ Below V5.heap.size V5 s.val) := ⟨OX1.out.1.below s.below, below_over OX1.out.2 s.below⟩
                      have c1 := TS.out.var.b
                      rw [H.out.2.2.2.1] at c1
                      have c2 := lB (H.out.2.1.below TS.out.bel) HX.out
                      obtain ⟨v2, X2, aX2, oX2, bX2⟩ := nB OS.out.1 OS.out.2.size (by have := J.out.2.1; simp at this ⊢; omega) u
                      have OX2 : Hid (Own eB X2 V5.heap.size v2 (acc ++ [y'] ++ [u]) ∧ Below V5.heap.size V5 X2) := ⟨oX2, OS.out.2.trans bX2⟩
                      have TX2 : Hid (RdS w X2 x 76 y'.cs) := T5.out.1.below OX2.out.2
                      clear oX2 bX2
                      go_wp2
                      go_roundw
                      case rel => exact ⟨i + 1, acc ++ [y'] ++ [u], true, by omega, by go_num, rfl, E.out, by have := J.out.2.1; simp at this ⊢; omega, OX2.out.1, OX2.out.2⟩
                      case measure => simp [intOf]; omega
                  · have d1 : decide (y'.v ≤ u.v) = false := by simpa using hb
                    have E : Hid (R3 = (acc ++ [u]) ++ setD false y' (rr.drop (i + 1))) := by rw [J.out.1, setD_n HX.out hb, List.append_assoc]; exact rfl
                    have e1 : (y'.v != u.v) = true := by simp; omega
                    clear hb
                    go_wp2_with fail
                    clear c1
                    refine wp_region_later (by kernel_rfl) (by kernel_rfl) ?_
                    repeat (go_big_quiet_step (first | exact rfl))
                    refine wpQuiet_nil ?_
                    intro _ hw'
                    obtain ⟨q, rfl⟩ := hw'
                    clear k0 k1 k2
                    have TQ : Hid (RdS w q.val x 76 y'.cs) := TJ.out.below q.below
                    have OQ : Hid (Own eB q.val V5.heap.size u7 (acc) ∧ Below V5.heap.size V5 q.val) := ⟨J.out.2.2.1.below q.below, below_over J.out.2.2.2 q.below⟩
                    have k0 := fun qq : Later q.val => ((show MrAt q.val (w.heap.size + 1) y' from TQ.out.arg).below qq.below).c0
                    have k1 := fun qq : Later q.val => (TQ.out.below qq.below).var.b
                    rw [H.out.2.2.2.1] at k1
                    have k2 := fun qq : Later q.val => lB0 ((H.out.2.1.below TQ.out.bel).below qq.below) HX.out
                    go_wp2_with fail
                    skip
                    refine wp_region_later (by kernel_rfl) (by kernel_rfl) ?_
                    repeat (go_big_quiet_step (first | exact rfl))
                    refine wpQuiet_nil ?_
                    intro _ hw'
                    obtain ⟨s, rfl⟩ := hw'
                    clear k0 k1 k2
                    have TS : Hid (RdS w s.val x 76 y'.cs) := TQ.out.below s.below
                    have OS : Hid (Own eB s.val V5.heap.size u7 (acc) ∧ Below V5.heap.size V5 s.val) := ⟨OQ.out.1.below s.below, below_over OQ.out.2 s.below⟩
                    have c1 := TS.out.var.b
                    rw [H.out.2.2.2.1] at c1
                    have c2 := lB (H.out.2.1.below TS.out.bel) HX.out
                    obtain ⟨v2, X2, aX2, oX2, bX2⟩ := nB OS.out.1 OS.out.2.size (by have := J.out.2.1; simp at this ⊢; omega) u
                    have OX2 : Hid (Own eB X2 V5.heap.size v2 (acc ++ [u]) ∧ Below V5.heap.size V5 X2) := ⟨oX2, OS.out.2.trans bX2⟩
                    have TX2 : Hid (RdS w X2 x 76 y'.cs) := T5.out.1.below OX2.out.2
                    clear oX2 bX2
                    go_wp2
                    go_roundw
                    case rel => exact ⟨i + 1, acc ++ [u], false, by omega, by go_num, rfl, E.out, by have := J.out.2.1; simp at this ⊢; omega, OX2.out.1, OX2.out.2⟩
                    case measure => simp [intOf]; omega
                · skip
                  go_wp2_with fail
                  clear c1
                  refine wp_region_later (by kernel_rfl) (by kernel_rfl) ?_
                  repeat (go_big_quiet_step (first | exact rfl))
                  refine wpQuiet_nil ?_
                  intro _ hw'
                  obtain ⟨q, rfl⟩ := hw'
                  have TQ : Hid (RdS w q.val x 76 y'.cs) := TJ.out.below q.below
                  have OQ : Hid (Own eB q.val V5.heap.size u7 acc ∧ Below V5.heap.size V5 q.val) := ⟨J.out.2.2.1.below q.below, below_over J.out.2.2.2 q.below⟩
                  have k0 := fun qq : Later q.val => ((show MrAt q.val (w.heap.size + 1) y' from TQ.out.arg).below qq.below).c0
                  have k1 := fun qq : Later q.val => (TQ.out.below qq.below).var.b
                  rw [H.out.2.2.2.1] at k1
                  have k2 := fun qq : Later q.val => lB0 ((H.out.2.1.below TQ.out.bel).below qq.below) HX.out
                  by_cases hk : y'.v = u.v
                  · have e1 : (y'.v != u.v) = false := by simp [hk]
                    have E : Hid (R3 = acc ++ setD true y' (rr.drop (i + 1))) := by rw [J.out.1, setD_td HX.out e1]; exact rfl
                    clear hk
                    go_wp2_with fail
                    skip
                    refine wp_region_later (by kernel_rfl) (by kernel_rfl) ?_
                    repeat (go_big_quiet_step (first | exact rfl))
                    refine wpQuiet_nil ?_
                    intro _ hw'
                    obtain ⟨s, rfl⟩ := hw'
                    clear k0 k1 k2
                    have TS : Hid (RdS w s.val x 76 y'.cs) := TQ.out.below s.below
                    have OS : Hid (Own eB s.val V5.heap.size u7 (acc) ∧ Below V5.heap.size V5 s.val) := ⟨OQ.out.1.below s.below, below_over OQ.out.2 s.below⟩
                    go_wp2
                    go_roundw
                    case rel => exact ⟨i + 1, acc, true, by omega, by go_num, rfl, E.out, by have := J.out.2.1; simp at this ⊢; omega, OS.out.1, OS.out.2⟩
                    case measure => simp [intOf]; omega
                  · have e1 : (y'.v != u.v) = true := by simp [hk]
                    have E : Hid (R3 = (acc ++ [u]) ++ setD true y' (rr.drop (i + 1))) := by rw [J.out.1, setD_tk HX.out e1, List.append_assoc]; exact rfl
                    clear hk
                    go_wp2_with fail
                    skip
                    refine wp_region_later (by kernel_rfl) (by kernel_rfl) ?_
                    repeat (go_big_quiet_step (first | exact rfl))
                    refine wpQuiet_nil ?_
                    intro _ hw'
                    obtain ⟨s, rfl⟩ := hw'
                    clear k0 k1 k2
                    have TS : Hid (RdS w s.val x 76 y'.cs) := TQ.out.below s.below
                    have OS : Hid (Own eB s.val V5.heap.size u7 (acc) ∧ Below V5.heap.size V5 s.val) := ⟨OQ.out.1.below s.below, below_over OQ.out.2 s.below⟩
                    have c1 := TS.out.var.b
                    rw [H.out.2.2.2.1] at c1
                    have c2 := lB (H.out.2.1.below TS.out.bel) HX.out
                    obtain ⟨v2, X2, aX2, oX2, bX2⟩ := nB OS.out.1 OS.out.2.size (by have := J.out.2.1; simp at this ⊢; omega) u
                    have OX2 : Hid (Own eB X2 V5.heap.size v2 (acc ++ [u]) ∧ Below V5.heap.size V5 X2) := ⟨oX2, OS.out.2.trans bX2⟩
                    have TX2 : Hid (RdS w X2 x 76 y'.cs) := T5.out.1.below OX2.out.2
                    clear oX2 bX2
                    go_wp2
                    go_roundw
                    case rel => exact ⟨i + 1, acc ++ [u], true, by omega, by go_num, rfl, E.out, by have := J.out.2.1; simp at this ⊢; omega, OX2.out.1, OX2.out.2⟩
                    case measure => simp [intOf]; omega
              · have hi1 : ¬ (i : Int) < (n : Int) := by omega
                have LE : Hid (rr.length ≤ i) := by rw [H.out.2.2.1]; show _ ≤ _; omega
                have LI : Hid (i ≤ 100) := by show _ ≤ _; omega
                clear hit hi
                obtain ⟨V9, hV9⟩ : ∃ z, wr = z := ⟨_, rfl⟩
                rw [hV9] at J TJ c1
                rw [hV9]
                clear hV9
                have LR : Hid ((setR z p.bs).length = R3.length) := (MB.out V5 (Below.refl _ _)).len.symm
                obtain ⟨m, hm⟩ : ∃ zz, R3.length = zz := ⟨_, rfl⟩
                have HM : Hid ((setR z p.bs).length = m) := by rw [LR.out]; exact hm
                cases D
                · have c3 := (show MrAt V9 (w.heap.size + 1) y' from TJ.out.arg).ld
                  obtain ⟨v1, X1, aX1, oX1, bX1⟩ := nB J.out.2.2.1 J.out.2.2.2.size (by have h1 := J.out.2.1; have h2 := LI.out; simp at h1; omega) y'
                  have OX : Hid (Own eB X1 V5.heap.size v1 R3) := by rw [J.out.1, setD_ef LE.out]; exact oX1
                  have BX : Hid (Below V5.heap.size V5 X1) := J.out.2.2.2.trans bX1
                  have TX1 : Hid (RdS w X1 x 76 y'.cs) := T5.out.1.below BX.out
                  clear oX1 bX1
                  obtain ⟨ua, uc, hua, us, _⟩ := OX.out.form
                  rw [hm] at hua us
                  subst hua
                  have hmm := us.int
                  clear us hm
                  by_cases h64 : 64 < m
                  · have g1 : decide ((m : Int) > 64) = true := by simp; omega
                    have g2 : decide ((64 : Int) < (m : Int)) = true := by simp; omega
                    have NM : Hid (64 < (setR z p.bs).length) := by rw [HM.out]; exact h64
                    have E0 : rsB p z = 3 := by unfold rsB; simp [QV.out.2, QS.out, N.out, QA.out, NM.out]
                    have E : Hid (whn p { p with bs := setR z p.bs } (rsB p z) = (p, 3)) := by rw [E0]; exact rfl
                    clear E0
                    clear h64
                    obtain ⟨Z, sZ, pZ, gZ, bZ⟩ := TX1.out.tell H.out.1.one
                    have G : Hid (PrAt Z (w.heap.size + 2) x ∧ IsPv Z x p ∧ Below w.heap.size w Z) := ⟨pZ, H.out.1.below bZ, bZ⟩
                    clear pZ gZ bZ
                    have l9 := TX1.out.var.ld
                    go_wp2
                    exact ret_pe Try.results78 rfl rfl rfl G.out.1 (by show RdT w _ _ _; rw [E.out]; exact ⟨⟨_, rfl, G.out.2.1⟩, G.out.2.2⟩)
                  · have g1 : decide ((m : Int) > 64) = false := by simp; omega
                    have g2 : decide ((64 : Int) < (m : Int)) = false := by simp; omega
                    have NM : Hid (¬ 64 < (setR z p.bs).length) := by rw [HM.out]; exact h64
                    have E0 : rsB p z = 0 := by unfold rsB; simp [QV.out.2, QS.out, N.out, QA.out, NM.out]
                    have E : Hid (whn p { p with bs := setR z p.bs } (rsB p z) = ({ p with bs := setR z p.bs }, 0)) := by rw [E0]; exact rfl
                    clear E0
                    clear h64
                    obtain ⟨V6, s6, q6, g6⟩ := TX1.out.var.stB (.slice ua m uc) OX.out.slv.one
                    have T6 := TX1.out.set q6 g6
                    have b6 : Below w.heap.size w V6 := T6.bel
                    have o6 := OX.out.kept g6 (by have := T5.out.1.siz; omega)
                    have i6 : IsPv V6 { x with b := (.slice ua m uc) } { p with bs := setR z p.bs } := ⟨H.out.1.o, H.out.1.wf, (H.out.1.below b6).k, (H.out.1.below b6).m, (H.out.1.below b6).c, ⟨R3, o6.slv, mem_kept (MB.out _ BX.out) TX1.out.var H.out.1 TX1.out.bel g6⟩⟩
                    obtain ⟨Z, sZ, pZ, gZ, bZ⟩ := T6.tell i6.one
                    have o7 := o6.kept gZ (by have := T5.out.1.siz; omega)
                    have G : Hid (PrAt Z (w.heap.size + 2) { x with b := (.slice ua m uc) } ∧ IsPv Z { x with b := (.slice ua m uc) } { p with bs := setR z p.bs } ∧ Below w.heap.size w Z) := ⟨pZ, ⟨H.out.1.o, H.out.1.wf, (H.out.1.below bZ).k, (H.out.1.below bZ).m, (H.out.1.below bZ).c, ⟨R3, o7.slv, mem_keptz (mem_kept (MB.out _ BX.out) TX1.out.var H.out.1 TX1.out.bel g6) T6.res gZ⟩⟩, bZ⟩
                    have l9 := T6.var.ld
                    clear q6 g6 T6 b6 o6 i6 pZ gZ bZ o7
                    go_wp2
                    exact ret_pe Try.results78 rfl rfl rfl G.out.1 (by show RdT w _ _ _; rw [E.out]; exact ⟨⟨_, rfl, G.out.2.1⟩, G.out.2.2⟩)
                · have OX : Hid (Own eB V9 V5.heap.size u7 R3) := by rw [J.out.1, setD_et LE.out, List.append_nil]; exact J.out.2.2.1
                  have BX : Hid (Below V5.heap.size V5 V9) := J.out.2.2.2
                  obtain ⟨ua, uc, hua, us, _⟩ := OX.out.form
                  rw [hm] at hua us
                  subst hua
                  have hmm := us.int
                  clear us hm
                  by_cases h64 : 64 < m
                  · have g1 : decide ((m : Int) > 64) = true := by simp; omega
                    have g2 : decide ((64 : Int) < (m : Int)) = true := by simp; omega
                    have NM : Hid (64 < (setR z p.bs).length) := by rw [HM.out]; exact h64
                    have E0 : rsB p z = 3 := by unfold rsB; simp [QV.out.2, QS.out, N.out, QA.out, NM.out]
                    have E : Hid (whn p { p with bs := setR z p.bs } (rsB p z) = (p, 3)) := by rw [E0]; exact rfl
                    clear E0
                    clear h64
                    obtain ⟨Z, sZ, pZ, gZ, bZ⟩ := TJ.out.tell H.out.1.one
                    have G : Hid (PrAt Z (w.heap.size + 2) x ∧ IsPv Z x p ∧ Below w.heap.size w Z) := ⟨pZ, H.out.1.below bZ, bZ⟩
                    clear pZ gZ bZ
                    have l9 := TJ.out.var.ld
                    go_wp2
                    exact ret_pe Try.results78 rfl rfl rfl G.out.1 (by show RdT w _ _ _; rw [E.out]; exact ⟨⟨_, rfl, G.out.2.1⟩, G.out.2.2⟩)
                  · have g1 : decide ((m : Int) > 64) = false := by simp; omega
                    have g2 : decide ((64 : Int) < (m : Int)) = false := by simp; omega
                    have NM : Hid (¬ 64 < (setR z p.bs).length) := by rw [HM.out]; exact h64
                    have E0 : rsB p z = 0 := by unfold rsB; simp [QV.out.2, QS.out, N.out, QA.out, NM.out]
                    have E : Hid (whn p { p with bs := setR z p.bs } (rsB p z) = ({ p with bs := setR z p.bs }, 0)) := by rw [E0]; exact rfl
                    clear E0
                    clear h64
                    obtain ⟨V6, s6, q6, g6⟩ := TJ.out.var.stB (.slice ua m uc) OX.out.slv.one
                    have T6 := TJ.out.set q6 g6
                    have b6 : Below w.heap.size w V6 := T6.bel
                    have o6 := OX.out.kept g6 (by have := T5.out.1.siz; omega)
                    have i6 : IsPv V6 { x with b := (.slice ua m uc) } { p with bs := setR z p.bs } := ⟨H.out.1.o, H.out.1.wf, (H.out.1.below b6).k, (H.out.1.below b6).m, (H.out.1.below b6).c, ⟨R3, o6.slv, mem_kept (MB.out _ BX.out) TJ.out.var H.out.1 TJ.out.bel g6⟩⟩
                    obtain ⟨Z, sZ, pZ, gZ, bZ⟩ := T6.tell i6.one
                    have o7 := o6.kept gZ (by have := T5.out.1.siz; omega)
                    have G : Hid (PrAt Z (w.heap.size + 2) { x with b := (.slice ua m uc) } ∧ IsPv Z { x with b := (.slice ua m uc) } { p with bs := setR z p.bs } ∧ Below w.heap.size w Z) := ⟨pZ, ⟨H.out.1.o, H.out.1.wf, (H.out.1.below bZ).k, (H.out.1.below bZ).m, (H.out.1.below bZ).c, ⟨R3, o7.slv, mem_keptz (mem_kept (MB.out _ BX.out) TJ.out.var H.out.1 TJ.out.bel g6) T6.res gZ⟩⟩, bZ⟩
                    have l9 := T6.var.ld
                    clear q6 g6 T6 b6 o6 i6 pZ gZ bZ o7
                    go_wp2
                    exact ret_pe Try.results78 rfl rfl rfl G.out.1 (by show RdT w _ _ _; rw [E.out]; exact ⟨⟨_, rfl, G.out.2.1⟩, G.out.2.2⟩)
end Go.Proofs.Ytgjagedngdhdaaa
