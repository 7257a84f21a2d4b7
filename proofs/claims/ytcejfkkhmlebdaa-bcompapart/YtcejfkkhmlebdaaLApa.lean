/-
  Other VLANs and other services turn nothing: the walk of the statement, for every input.
-/
import Derived.Test.YtcejfkkhmlebdaaPLw
namespace Go.Proofs.Ytcejfkkhmlebdaa
set_option linter.unusedVariables false
set_option maxRecDepth 4000
set_option linter.unusedSimpArgs false
open Go.RowKit
attribute [local go_sem ↓] ldM stM ldC stC ldB stB ldP stP apI bsI ldF stF stIs stBs stCs slI apB apC bsB bsC
attribute [local go_sem] bsI_is

theorem own_one {α : Type} {e : El α} (k : e.Ok) (W : World) (x : α) : Own e (W.alloc (.cells (e.f x) e.ty)) W.heap.size (.slice (some ⟨W.heap.size, 0, none⟩) 1 1) [x] := by
  have h : PAt e (W.alloc (.cells (e.f x) e.ty)) W.heap.size 1 [x] := ⟨e.f x, RvAt.new _ _ _, Nat.le_refl _, by unfold maxLen; omega, by rw [k.size, Nat.one_mul], by
    have : (e.f x).toList.length = e.K := k.len x
    rw [show ([x] : List α).length * e.K = e.K from Nat.one_mul _, List.take_of_length_le (by omega)]
    simp [El.fl]⟩
  exact h.own k (Nat.le_refl _)
/-- A row, and those of another one behind it. -/
theorem app_one {α : Type} {e : El α} (k : e.Ok) (W : World) (x : α) {a : Option Addr} {n c : Nat} {l : List α} (h : SlAt e W a n c l) (hl : l.length ≤ 1000) (ty : TypeId) :
    ∃ v' W', (apS e.st ty #[.slice (some ⟨W.heap.size, 0, none⟩) 1 1, .slice a n c]).run Try.prog (W.alloc (.cells (e.f x) e.ty)) = .ok v' W' ∧ Own e W' W.heap.size v' (x :: l) ∧ Below W.heap.size W W' := by
  have bA : Below W.heap.size W (W.alloc (.cells (e.f x) e.ty)) := (Below.refl _ _).alloc (Nat.le_refl _) _
  obtain ⟨v', W', ap, o2, g2⟩ := (own_one k W x).app k (h.below bA) (by simp; omega) bA.size ty
  exact ⟨v', W', ap, o2, bA.trans (below_of_grown g2 bA.size (fun j e => by cases e; exact Nat.le_refl _))⟩
/-- What the statement keeps. -/
structure ApS (w V : World) (B : Nat) (x : Pr) (q : Pv) (f : Bf) (y : Mr) (c : Cr) (b2 b3 b4 : Nat) : Prop where
  pr : PrAt V w.heap.size x
  few : FewK w V B x q
  fr : FrAt V b2 f
  mr : MrAt V b3 y
  cr : CrAt V b4 c
  bel : Below w.heap.size w V
  lo : w.heap.size < B ∧ w.heap.size < b2 ∧ w.heap.size < b3 ∧ w.heap.size < b4 ∧ b2 < B ∧ b3 < B ∧ b4 < B ∧ b2 < b3 ∧ b3 < b4 ∧ B ≤ V.heap.size
theorem ApS.below {w V V' : World} {B : Nat} {x : Pr} {q : Pv} {f : Bf} {y : Mr} {c : Cr} {b2 b3 b4 : Nat} (h : ApS w V B x q f y c b2 b3 b4) (hb : Below V.heap.size V V') : ApS w V' B x q f y c b2 b3 b4 :=
  ⟨h.pr.below hb, h.few.below hb, h.fr.below hb, h.mr.below hb, h.cr.below hb, below_over h.bel hb, by have := h.lo; have := hb.size; omega⟩
theorem ApS.pv {w V : World} {B : Nat} {x : Pr} {q : Pv} {f : Bf} {y : Mr} {c : Cr} {b2 b3 b4 : Nat} (h : ApS w V B x q f y c b2 b3 b4) : IsPv V x q := h.few.pv h.bel
set_option maxHeartbeats 16000000 in
theorem BcompApart_walk (x : Pr) (p : Pv) (ga : Option Addr) (gn gc : Nat) (g : List Gt) (src : Int) (f : Bf) (dst : Int) (y : Mr) (ps : List Int) (c : Cr) (w : World) (h : IsPv w x p) (hg : SlAt eG w ga gn gc g) (hf : f.ok) (hy : SlAt eI w y.a y.n y.c ps) :
    Calls Try.prog 5 #[.agg x.cs, .slice ga gn gc, .int .i64 src, .agg f.cs, .int .i64 dst, .agg y.cs, .agg c.cs] w fun r w' => r = .returned (.bool true) ∧ Below w.heap.size w w' := by
  obtain ⟨W1, hW1, r1, b1, z1⟩ := PrAt.new w x
  obtain ⟨W2, hW2, r2, b2, z2⟩ := FrAt.new W1 f
  obtain ⟨W3, hW3, r3, b3, z3⟩ := MrAt.new W2 y
  obtain ⟨W4, hW4, r4, b4, z4⟩ := CrAt.new W3 c
  have b24 : Below W2.heap.size W2 W4 := below_over b3 b4
  have b14 : Below W1.heap.size W1 W4 := below_over b2 b24
  have b04 : Below w.heap.size w W4 := below_over b1 b14
  have H : Hid (PrAt W4 w.heap.size x ∧ FrAt W4 W1.heap.size f ∧ MrAt W4 W2.heap.size y ∧ CrAt W4 W3.heap.size c ∧ Below w.heap.size w W4 ∧ f.ok ∧ SlAt eG w ga gn gc g ∧ SlAt eI w y.a y.n y.c ps ∧ IsPv w x p) := ⟨r1.below b14, r2.below b24, r3.below b4, r4, b04, hf, hg, hy, h⟩
  have HZ : Hid (W1.heap.size = w.heap.size + 1 ∧ W2.heap.size = w.heap.size + 2 ∧ W3.heap.size = w.heap.size + 3 ∧ W4.heap.size = w.heap.size + 4) := ⟨z1, by omega, by omega, by omega⟩
  have l0 := H.out.1.ld
  have hyn := hy.int
  clear r1 r2 r3 r4 b1 b2 b3 b4 b24 b14 b04 z1 z2 z3 z4 h hg hf hy
  go_enter Try.func5, Try.ntmps5
  go_wp2_with fail
  refine (few_at x p w W4 H.out.2.2.2.2.2.2.2.2 H.out.2.2.2.2.1).mono ?_
  rintro _ X1 ⟨⟨x1, rfl, h1⟩, c1⟩
  obtain ⟨q, hq⟩ : ∃ z, fewP p = z := ⟨_, rfl⟩
  have SZ : Hid (Sz q) := by rw [← hq]; exact sz_few p
  rw [hq] at h1
  have hx1 : ∀ v ∈ x1.cs.toList, v.oneCell' = true := (h1.pv (below_over H.out.2.2.2.2.1 c1)).one
  obtain ⟨V1, s1, q1, g1⟩ := (H.out.1.below c1).st (y := x1) hx1
  have K1 : Hid (ApS w V1 W4.heap.size x1 q f y c W1.heap.size W2.heap.size W3.heap.size) :=
    ⟨q1, h1.kept g1 (by have := HZ.out; omega), (H.out.2.1.below c1).keptBut g1 (by have := HZ.out; simp; omega), (H.out.2.2.1.below c1).keptBut g1 (by have := HZ.out; simp; omega), RvAt.keptBut (H.out.2.2.2.1.below c1) g1 (by have := HZ.out; simp; omega), gro (below_over H.out.2.2.2.2.1 c1) g1 (Nat.le_refl _) (below_over H.out.2.2.2.2.1 c1).size, by have := HZ.out; have := c1.size; have := g1.size; omega⟩
  clear h1 c1 q1 g1 l0 hq hx1
  go_wp2_with fail
  refine (cut_any ga gn gc g V1 (H.out.2.2.2.2.2.2.1.below K1.out.bel)).mono ?_
  rintro _ X2 ⟨⟨v2, rfl, _⟩, c2⟩
  obtain ⟨gk, hgk⟩ : ∃ z, min gn 10 = z := ⟨_, rfl⟩
  obtain ⟨G, hG⟩ : ∃ z, g.take 10 = z := ⟨_, rfl⟩
  have gs2 := H.out.2.2.2.2.2.2.1.cutM kG 10
  rw [hgk, hG] at gs2
  rw [hgk]
  have HG : Hid (SlAt eG w ga gk gc G ∧ gk ≤ 1000) := ⟨gs2, by omega⟩
  have K2 : Hid (ApS w X2 W4.heap.size x1 q f y c W1.heap.size W2.heap.size W3.heap.size) := K1.out.below c2
  have k1 := K2.out.mr.c1
  have n3 := slI_cut y.a y.n y.c (min y.n 10) (Nat.min_le_left ..) H.out.2.2.2.2.2.2.2.1.cap
  obtain ⟨k3, hk3⟩ : ∃ z, min y.n 10 = z := ⟨_, rfl⟩
  obtain ⟨V3, s3, q3, g3⟩ := K2.out.mr.stP y.a k3 y.c
  have m3 : min (y.n : Int) 10 = (k3 : Int) := by omega
  have m3' : (if (10 : Int) < (y.n : Int) then (10 : Int) else (y.n : Int)) = (k3 : Int) := by split <;> omega
  rw [hk3] at n3
  have hps := H.out.2.2.2.2.2.2.2.1.cutM kI 10
  rw [hk3] at hps
  have HP : Hid (SlAt eI w y.a k3 y.c (ps.take 10)) := hps
  have K3 : Hid (ApS w V3 W4.heap.size x1 q f ⟨y.v, y.a, k3, y.c⟩ c W1.heap.size W2.heap.size W3.heap.size) :=
    ⟨K2.out.pr.keptBut g3 (by have := K2.out.lo; simp; omega), K2.out.few.kept g3 (by have := K2.out.lo; omega), K2.out.fr.keptBut g3 (by have := K2.out.lo; simp; omega), q3, RvAt.keptBut K2.out.cr g3 (by have := K2.out.lo; simp; omega), gro K2.out.bel g3 (by have := K2.out.lo; omega) K2.out.bel.size, by have := K2.out.lo; have := g3.size; omega⟩
  have d0 := K3.out.mr.c0
  have d1 := K3.out.fr.v
  have d2 := K3.out.cr.c0
  have d3 := K3.out.fr.i
  clear c2 gs2 hgk hG s1 hk3 hps q3 g3
  by_cases e0 : y.v = f.v
  · have q0 : (y.v == f.v) = true := by simp [e0]
    clear e0
    go_wp2_with fail
    refine (awake_any V3).mono ?_
    rintro _ V4 ⟨rfl, b4⟩
    have B : Hid (Below w.heap.size w V4) := below_over K3.out.bel b4
    clear b4
    go_wp2
    go_ret
    exact ⟨rfl, B.out⟩
  · have q0 : (y.v == f.v) = false := by simp [e0]
    have N0 : Hid (¬ y.v = f.v) := e0
    clear e0
    by_cases e1 : c.s = f.i
    · have q1 : (c.s == f.i) = true := by simp [e1]
      clear e1
      go_wp2_with fail
      refine (awake_any V3).mono ?_
      rintro _ V4 ⟨rfl, b4⟩
      have B : Hid (Below w.heap.size w V4) := below_over K3.out.bel b4
      clear b4
      go_wp2
      go_ret
      exact ⟨rfl, B.out⟩
    · have q1 : (c.s == f.i) = false := by simp [e1]
      have N1 : Hid (¬ c.s = f.i) := e1
      clear e1
      have l0 := K3.out.pr.ld
      obtain ⟨V4, s4, m4, b4⟩ := PrAt.put V3 x1 K3.out.pv.one
      have K4 : Hid (ApS w V4 W4.heap.size x1 q f ⟨y.v, y.a, k3, y.c⟩ c W1.heap.size W2.heap.size W3.heap.size ∧ PrAt V4 V3.heap.size x1 ∧ Below V3.heap.size V3 V4 ∧ V3.heap.size < V4.heap.size) := ⟨K3.out.below b4, m4, b4, m4.lt⟩
      clear m4 b4
      obtain ⟨rr, o5, hm5⟩ := K4.out.1.few.b
      obtain ⟨ba, bc, hbv, s5, _⟩ := o5.form
      obtain ⟨bn, hbn⟩ : ∃ z, rr.length = z := ⟨_, rfl⟩
      rw [hbn] at hbv s5
      have hlen : rr.length ≤ 100 := by rw [hm5.len]; exact SZ.out.2.2.2.1
      have HM : Hid (Mem w rr q.bs) := hm5
      have l5 := K4.out.1.mr.ld
      have c5 := (K4.out.1.pr.below ((Below.refl _ _).alloc (Nat.le_refl _) (.cells (Mr.mk y.v y.a k3 y.c).cs 68))).b
      rw [hbv] at c5
      obtain ⟨v5, V5, a5, ob5, b5⟩ := app_one kB V4 ⟨y.v, y.a, k3, y.c⟩ s5 (by omega) 46
      have a5' : (apS 46 46 #[.slice (some ⟨V4.heap.size, 0, none⟩) 1 1, .slice ba bn bc]).run Try.prog (V4.alloc (.cells (Mr.mk y.v y.a k3 y.c).cs 68)) = .ok v5 V5 := a5
      have z5 := bsB_is ⟨y.v, y.a, k3, y.c⟩ V4
      obtain ⟨V6, s6, m6, g6⟩ := (K4.out.2.1.below b5).stB v5 ob5.slv.one
      have b36 : Below V3.heap.size V3 V6 := gro (below_over K4.out.2.2.1 b5) g6 (Nat.le_refl _) (below_over K4.out.2.2.1 b5).size
      have K6 : Hid (ApS w V6 W4.heap.size x1 q f ⟨y.v, y.a, k3, y.c⟩ c W1.heap.size W2.heap.size W3.heap.size ∧ PrAt V6 V3.heap.size { x1 with b := v5 } ∧ Below V3.heap.size V3 V6 ∧ Own eB V6 V4.heap.size v5 (⟨y.v, y.a, k3, y.c⟩ :: rr) ∧ V3.heap.size < V6.heap.size) := ⟨K3.out.below b36, m6, b36, ob5.kept g6 K4.out.2.2.2, m6.lt⟩
      obtain ⟨ca, cn, cc, hcv, s7⟩ := K6.out.1.few.c
      have s7' : SlAt eC V6 ca cn cc q.cs := s7.below K6.out.1.bel
      have l7 := K6.out.1.cr.ld
      have c7 := (K6.out.1.pr.below ((Below.refl _ _).alloc (Nat.le_refl _) (.cells c.cs 70))).c
      rw [hcv] at c7
      obtain ⟨v7, V7, a7, ob7, b7⟩ := app_one kC V6 c s7' (by have := SZ.out.2.2.1; omega) 45
      have a7' : (apS 45 45 #[.slice (some ⟨V6.heap.size, 0, none⟩) 1 1, .slice ca cn cc]).run Try.prog (V6.alloc (.cells c.cs 70)) = .ok v7 V7 := a7
      have z7 := bsC_is c V6
      obtain ⟨V8, s8, m8, g8⟩ := (K6.out.2.1.below b7).stC v7 ob7.slv.one
      have b38 : Below V3.heap.size V3 V8 := gro (below_over K6.out.2.2.1 b7) g8 (Nat.le_refl _) (below_over K6.out.2.2.1 b7).size
      obtain ⟨Q2, hQ2⟩ : ∃ z, moP q ⟨y.v, ps.take 10⟩ c = z := ⟨_, rfl⟩
      obtain ⟨x2, hx2⟩ : ∃ z : Pr, { x1 with b := v5, c := v7 } = z := ⟨_, rfl⟩
      have hV8 : Below w.heap.size w V8 := below_over K3.out.bel b38
      have hob5 : Own eB V8 V4.heap.size v5 (⟨y.v, y.a, k3, y.c⟩ :: rr) := (K6.out.2.2.2.1.below b7).kept g8 K4.out.2.2.2
      have hp2 : IsPv V8 x2 Q2 := by
        rw [← hQ2, ← hx2]
        have hp := K3.out.pv.below b38
        exact ⟨hp.o, hp.wf, hp.k, hp.m, (ob7.kept g8 K6.out.2.2.2.2).slv, ⟨y.v, y.a, k3, y.c⟩ :: rr, hob5.slv, Mem.app (r := [⟨y.v, y.a, k3, y.c⟩]) (l := [⟨y.v, ps.take 10⟩]) (Mem.one rfl (HP.out.below hV8)) (HM.out.below hV8)⟩
      have m8' : PrAt V8 V3.heap.size x2 := by rw [← hx2]; exact m8
      have K8 : Hid (ApS w V8 W4.heap.size x1 q f ⟨y.v, y.a, k3, y.c⟩ c W1.heap.size W2.heap.size W3.heap.size ∧ PrAt V8 V3.heap.size x2 ∧ IsPv V8 x2 Q2) := ⟨K3.out.below b38, m8', hp2⟩
      have SZ2 : Hid (∀ m ∈ Q2.bs, m.ps.length ≤ 1000) := by
        rw [← hQ2]
        intro m hm
        rcases List.mem_cons.1 hm with rfl | hm
        · exact Nat.le_trans (List.length_take_le ..) (by decide)
        · exact SZ.out.2.2.2.2 m hm
      have e8 := K8.out.1.pr.ld
      have e9 := K8.out.1.fr.ld
      clear ob5 b5 m6 g6 b36 s7 s7' ob7 b7 m8 g8 b38 hV8 hob5 hp2 m8' hx2 hbn o5 s5 hm5 hlen
      obtain ⟨LL, hLL⟩ : ∃ z, outL q G src f dst true = z := ⟨_, rfl⟩
      obtain ⟨OB, hOB⟩ : ∃ z, outB q src f = z := ⟨_, rfl⟩
      obtain ⟨IN, hIN⟩ : ∃ z, inC q G src f = z := ⟨_, rfl⟩
      obtain ⟨AC, hAC⟩ : ∃ z, acC q f = z := ⟨_, rfl⟩
      have E2 : Hid (outL Q2 G src f dst true = LL ∧ outB Q2 src f = OB ∧ inC Q2 G src f = IN ∧ acC Q2 f = AC) := by
        rw [← hQ2]
        exact ⟨by rw [← hLL]; exact mo_out N0.out, by rw [← hOB]; exact mo_own, by rw [← hIN]; exact mo_in N0.out, by rw [← hAC]; exact mo_ac N1.out⟩
      have E1 : Hid (outL q G src f dst true = LL ∧ outB q src f = OB ∧ inC q G src f = IN ∧ acC q f = AC) := ⟨hLL, hOB, hIN, hAC⟩
      have P1 := out_any x1 q ga gk gc G src f dst true V8 K8.out.1.pv SZ.out.2.2.2.2 (HG.out.1.below K8.out.1.bel) HG.out.2 H.out.2.2.2.2.2.1
      rw [E1.out.1, E1.out.2.1] at P1
      have Q1 : Hid (Calls _ _ _ _ _) := P1
      clear P1 hLL hOB hIN hAC hQ2
      go_wp2_with fail
      refine Q1.out.mono ?_
      rintro _ X3 ⟨⟨v3, rfl, o3⟩, c3⟩
      obtain ⟨la, lc, rfl, s3, _⟩ := o3.form
      obtain ⟨ln, hln⟩ : ∃ z, LL.length = z := ⟨_, rfl⟩
      rw [hln] at s3 ⊢
      have K9 : Hid (ApS w X3 W4.heap.size x1 q f ⟨y.v, y.a, k3, y.c⟩ c W1.heap.size W2.heap.size W3.heap.size ∧ PrAt X3 V3.heap.size x2 ∧ IsPv X3 x2 Q2 ∧ SlAt eI X3 la ln lc LL) := ⟨K8.out.1.below c3, K8.out.2.1.below c3, K8.out.2.2.below c3, s3⟩
      clear o3 c3 s3 hln e8 e9 Q1 s4 l0 l5 c5 a5 a5' z5 s6 l7 c7 a7 a7' z7 s8
      have e8 := K9.out.2.1.ld
      have e9 := K9.out.1.fr.ld
      have P2 := out_any x2 Q2 ga gk gc G src f dst true X3 K9.out.2.2.1 SZ2.out (HG.out.1.below K9.out.1.bel) HG.out.2 H.out.2.2.2.2.2.1
      rw [E2.out.1, E2.out.2.1] at P2
      have Q2' : Hid (Calls _ _ _ _ _) := P2
      clear P2
      go_wp2_with fail
      refine Q2'.out.mono ?_
      rintro _ X4 ⟨⟨v4, rfl, o4⟩, c4⟩
      obtain ⟨ma, mc, rfl, s4, _⟩ := o4.form
      obtain ⟨mn, hmn⟩ : ∃ z, LL.length = z := ⟨_, rfl⟩
      rw [hmn] at s4 ⊢
      have KA : Hid (ApS w X4 W4.heap.size x1 q f ⟨y.v, y.a, k3, y.c⟩ c W1.heap.size W2.heap.size W3.heap.size ∧ PrAt X4 V3.heap.size x2 ∧ IsPv X4 x2 Q2 ∧ SlAt eI X4 la ln lc LL ∧ SlAt eI X4 ma mn mc LL) := ⟨K9.out.1.below c4, K9.out.2.1.below c4, K9.out.2.2.1.below c4, K9.out.2.2.2.below c4, s4⟩
      clear o4 c4 s4 hmn e8 e9 Q2'
      have GA : Hid (SlAt eG X4 ga gk gc G) := HG.out.1.below KA.out.1.bel
      have f1 := fun t : Later X4 => (KA.out.1.pr.below t.below).ld
      have f2 := fun t : Later X4 => (KA.out.2.1.below t.below).ld
      have f3 := fun t : Later X4 => (KA.out.1.fr.below t.below).ld
      have PS : Hid (∀ t : Later X4, _) := fun t : Later X4 => ret_b (rints_b la ln lc LL ma mn mc LL t.val (KA.out.2.2.2.1.below t.below) (KA.out.2.2.2.2.below t.below)) (eqIs_self LL)
      have PI1 : Hid (∀ t : Later X4, _) := fun t : Later X4 => ret_i (in_any x1 q ga gk gc G src f t.val (KA.out.1.pv.below t.below) SZ.out.2.2.2.2 (GA.out.below t.below) H.out.2.2.2.2.2.1) E1.out.2.2.1
      have PI2 : Hid (∀ t : Later X4, _) := fun t : Later X4 => ret_i (in_any x2 Q2 ga gk gc G src f t.val (KA.out.2.2.1.below t.below) SZ2.out (GA.out.below t.below) H.out.2.2.2.2.2.1) E2.out.2.2.1
      have PA1 : Hid (∀ t : Later X4, _) := fun t : Later X4 => ret_i (accept_any x1 q f t.val (KA.out.1.pv.below t.below)) E1.out.2.2.2
      have PA2 : Hid (∀ t : Later X4, _) := fun t : Later X4 => ret_i (accept_any x2 Q2 f t.val (KA.out.2.2.1.below t.below)) E2.out.2.2.2
      go_wp2_with fail
      refine wp_region_later (by kernel_rfl) (by kernel_rfl) ?_
      repeat (go_big_quiet_step (first
        | exact rfl
        | (go_at_call 14; with_reducible exact Calls.later_of (PS.out _))
        | (go_at_call 15; first | with_reducible exact Calls.later_of (PI1.out _) | with_reducible exact Calls.later_of (PI2.out _))
        | (go_at_call 16; first | with_reducible exact Calls.later_of (PA1.out _) | with_reducible exact Calls.later_of (PA2.out _))
        | (go_at_call 8; with_reducible exact Calls.later_of (awake_any _))))
      refine wpQuiet_nil ?_
      intro _ hw'
      obtain ⟨t, rfl⟩ := hw'
      have B : Hid (Below w.heap.size w t.val) := below_later KA.out.1.bel t
      clear f1 f2 f3 PS PI1 PI2 PA1 PA2
      go_wp2
      go_ret
      exact ⟨rfl, B.out⟩
end Go.Proofs.Ytcejfkkhmlebdaa
