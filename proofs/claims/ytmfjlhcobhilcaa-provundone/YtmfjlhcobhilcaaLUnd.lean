/-
  What is added, and then deleted, is as it was: the walk of the statement, for every input.
-/
import Derived.Test.YtmfjlhcobhilcaaMde
import Derived.Test.YtmfjlhcobhilcaaLDo
import Derived.Test.YtmfjlhcobhilcaaSha
namespace Go.Proofs.Ytmfjlhcobhilcaa
set_option linter.unusedVariables false
set_option maxRecDepth 4000
set_option linter.unusedSimpArgs false
open Go.RowKit
attribute [local go_sem ↓] ldM stM ldC stC ldB stB ldP stP apI bsI
attribute [local go_sem] bsI_is bsI2_is

attribute [local go_sem ↓] stIs stKs stMs stCs stBs ldD stD apK bsK
attribute [local go_sem] bsK_is
attribute [local go_sem ↓] bdD
attribute [local go_sem] bdDB_is bdDC_is bdDM_is
theorem rsame_no (x y : Pr) (p q : Pv) (w : World) (h : IsPv w x p) (k : IsPv w y q) (hn : p ≠ q) : Calls Try.prog 13 #[.agg x.cs, .agg y.cs] w fun r w' => r = .returned (.bool false) ∧ Below w.heap.size w w' :=
  (rsame_any x y p q w h k).mono fun _ _ h => ⟨h.1.is ⟨(fun e => by cases e), fun e => absurd e hn⟩, h.2⟩
structure UnS (w V : World) (gp ga : Nat) (x xa : Pr) (P A : Pv) (m : Mp) (c : Cr) (z : Mr) (b : Mb) : Prop where
  p : PvS w V gp x P
  a : PvS w V ga xa A
  ne : gp ≠ ga
  m : MpAt V w.heap.size m
  c : CrAt V (w.heap.size + 1) c
  r : MrAt V (w.heap.size + 2) z
  zs : SlAt eI V z.a z.n z.c b.ps
  lo : w.heap.size + 3 ≤ ga
theorem UnS.below {w V V' : World} {gp ga : Nat} {x xa : Pr} {P A : Pv} {m : Mp} {c : Cr} {z : Mr} {b : Mb} (h : UnS w V gp ga x xa P A m c z b) (hb : Below V.heap.size V V') : UnS w V' gp ga x xa P A m c z b := ⟨h.p.below hb, h.a.below hb, h.ne, h.m.below hb, h.c.below hb, h.r.below hb, h.zs.below hb, h.lo⟩
/-- .. what was made stored. -/
theorem UnS.st {w V : World} {gp ga : Nat} {x xa y : Pr} {P A q : Pv} {m : Mp} {c : Cr} {z : Mr} {b : Mb} (h : UnS w V gp ga x xa P A m c z b) (hq : IsPv V y q) : ∃ V', (stS 29 (.pointer (some ⟨ga, 0, none⟩)) (.agg y.cs)).run Try.prog V = .ok () V' ∧ UnS w V' gp ga x y P q m c z b := by
  obtain ⟨V', h1, h2, h3⟩ := h.a.st hq
  have lo := h.lo
  exact ⟨V', h1, h.p.other h.a h3 h.ne, h2, h.ne, RvAt.keptBut h.m h3 (by simp; omega), RvAt.keptBut h.c h3 (by simp; omega), RvAt.keptBut h.r h3 (by simp; omega), h.zs.keptV kI (fun u => ⟨u, rfl⟩) h.a.var (pr_no h.a.pv) h3, h.lo⟩
theorem CrAt.lds {W : World} {b : Nat} {x : Cr} (h : CrAt W b x) : (ldS 39 (.pointer (some ⟨b, 0, none⟩))).run Try.prog W = .ok (.agg x.cs) W := h.ld
set_option maxHeartbeats 32000000 in
theorem ProvUndone_walk (bits ports : Int) (a : Option Addr) (n c : Nat) (rr : List Cm) (L : List Cd) (m : Mp) (k : Cr) (y : Mr) (ps : List Int) (w : World) (hb : 0 ≤ bits ∧ bits ≤ 255) (hp : 0 ≤ ports ∧ ports ≤ 255) (h : Cms w a n c rr L) (hy : SlAt eI w y.a y.n y.c ps) :
    Calls Try.prog 7 #[.int .u8 bits, .int .u8 ports, .slice a n c, .agg m.cs, .agg k.cs, .agg y.cs] w fun r w' => r = .returned (.bool true) ∧ Below w.heap.size w w' := by
  obtain ⟨W1, hW1, m1, b1, z1⟩ := MpAt.new w m
  obtain ⟨W2, hW2, m2, b2, z2⟩ := CrAt.new W1 k
  obtain ⟨W3, hW3, m3, b3, z3⟩ := MrAt.new W2 y
  rw [z1] at m2
  have q2 : W2.heap.size = w.heap.size + 2 := by omega
  rw [q2] at m3
  have H : Hid (Cms w a n c rr L ∧ SlAt eI w y.a y.n y.c ps) := ⟨h, hy⟩
  have A0 : Hid (MpAt W3 w.heap.size m ∧ CrAt W3 (w.heap.size + 1) k ∧ MrAt W3 (w.heap.size + 2) y ∧ Below w.heap.size w W3 ∧ W3.heap.size = w.heap.size + 3) := ⟨(m1.below b2).below b3, m2.below b3, m3, below_over b1 (below_over b2 b3), by omega⟩
  clear h hy m1 m2 m3 b1 b2 b3 z3
  go_enter Try.func7, Try.ntmps7
  go_wp2_with fail
  refine (made_any bits ports a n c rr L W3 hb hp (H.out.1.below A0.out.2.2.2.1)).mono ?_
  rintro _ X1 ⟨⟨x, rfl, h1⟩, b1⟩
  obtain ⟨P, hP⟩ : ∃ z, madeP bits (prtN ports) L = z := ⟨_, rfl⟩
  have E0 : Hid (chk P = true ∧ Sz P) := by rw [← hP]; exact ⟨made_chk _ _ _, chk_sz (made_chk _ _ _)⟩
  rw [hP] at h1
  obtain ⟨X2, s2, S2, b2⟩ := PvS.new (w := w) (below_over A0.out.2.2.2.1 b1) h1
  have A1 : Hid (PvS w X2 X1.heap.size x P ∧ MpAt X2 w.heap.size m ∧ CrAt X2 (w.heap.size + 1) k ∧ MrAt X2 (w.heap.size + 2) y ∧ w.heap.size + 3 ≤ X1.heap.size) := ⟨S2, (A0.out.1.below b1).below b2, (A0.out.2.1.below b1).below b2, (A0.out.2.2.1.below b1).below b2, by have := b1.size; have := A0.out.2.2.2.2; omega⟩
  clear h1 b1 S2 b2 hP
  have l0 := A1.out.2.2.2.1.ld
  go_wp2_with fail
  refine (short_all y ps X2 (H.out.2.below A1.out.1.bel)).mono ?_
  rintro _ X3 ⟨⟨z, rfl, hv, hs⟩, b3⟩
  obtain ⟨X4, s4, m4, g4⟩ := (A1.out.2.2.2.1.below b3).st z
  obtain ⟨gp, hgp⟩ : ∃ zz, X1.heap.size = zz := ⟨_, rfl⟩
  rw [hgp] at A1
  obtain ⟨b, hbb⟩ : ∃ zz : Mb, ⟨z.v, ps.take 10⟩ = zz := ⟨_, rfl⟩
  have A4 : Hid (PvS w X4 gp x P ∧ MpAt X4 w.heap.size m ∧ CrAt X4 (w.heap.size + 1) k ∧ MrAt X4 (w.heap.size + 2) z ∧ SlAt eI X4 z.a z.n z.c b.ps ∧ w.heap.size + 3 ≤ gp) := by
    have sw := mr_swap (A1.out.2.2.2.1.below b3) m4 g4 hv
    have r1 := (A1.out.1.below b3).swap sw (cut_swap sw hs) (chk_eight E0.out.1) g4 (by have := A1.out.2.2.2.2; omega) (by omega)
    refine ⟨r1, RvAt.keptBut (A1.out.2.1.below b3) g4 (by simp), RvAt.keptBut (A1.out.2.2.1.below b3) g4 (by simp), m4, ?_, A1.out.2.2.2.2⟩
    rw [← hbb]
    exact (hs w ps H.out.2).below r1.bel
  have HV : Hid (z.v = b.v ∧ b.ps.length ≤ 1000) := by rw [← hbb]; exact ⟨rfl, Nat.le_trans (List.length_take_le ..) (by decide)⟩
  clear hv hs b3 m4 g4 l0 hbb
  obtain ⟨⟨A_1, e_1⟩, hqe⟩ : ∃ zz, doC P ⟨1, m, ⟨0, 0⟩, ⟨0, []⟩⟩ = zz := ⟨_, rfl⟩
  have D_1 : Hid (doC P ⟨1, m, ⟨0, 0⟩, ⟨0, []⟩⟩ = (A_1, e_1)) := hqe
  clear hqe
  have f0_1 := A4.out.1.ld
  have f1_1 := A4.out.2.1.ld
  go_wp2_with fail
  refine (do_is (y := Cm.mk 1 m ⟨0, 0⟩ ⟨0, none, 0, 0⟩ zT) A4.out.1.pv E0.out.2 ⟨rfl, rfl, rfl, rfl, SlAt.none' _⟩ (by show 0 ≤ 1000; decide) D_1.out).mono ?_
  rintro _ Y_1 ⟨⟨xa_1, rfl, h1⟩, b1⟩
  obtain ⟨V_1, s_1, S1, b2⟩ := PvS.new (w := w) (below_over A4.out.1.bel b1) h1.pv
  have S_1 : Hid (UnS w V_1 gp Y_1.heap.size x xa_1 P A_1 m k z b) := ⟨(A4.out.1.below b1).below b2, S1, by have := (A4.out.1.below b1).var.lt; omega, (A4.out.2.1.below b1).below b2, (A4.out.2.2.1.below b1).below b2, (A4.out.2.2.2.1.below b1).below b2, (A4.out.2.2.2.2.1.below b1).below b2, by have := (A4.out.1.below b1).var.lt; have := A4.out.2.2.2.2.2; omega⟩
  clear S1 b2 h1 b1 f0_1 f1_1
  by_cases he_1 : e_1 = 0
  · subst he_1
    have UU_1 : Hid (doC A_1 ⟨2, m, ⟨0, 0⟩, ⟨0, []⟩⟩ = (P, 0) ∧ A_1 ≠ P ∧ Sz A_1) := by
      obtain ⟨u1, u2⟩ := un_map E0.out.1 _ _ D_1.out _ _
      exact ⟨u1, u2, chk_sz (by have := do_chk ⟨1, m, ⟨0, 0⟩, ⟨0, []⟩⟩ E0.out.1; rw [D_1.out] at this; exact this)⟩
    have f0_1 := S_1.out.a.ld
    have f1_1 := S_1.out.m.ld
    go_wp2_with fail
    refine (do_is (y := Cm.mk 2 m ⟨0, 0⟩ ⟨0, none, 0, 0⟩ zT) S_1.out.a.pv UU_1.out.2.2 ⟨rfl, rfl, rfl, rfl, SlAt.none' _⟩ (by show 0 ≤ 1000; decide) UU_1.out.1).mono ?_
    rintro _ Z_1 ⟨⟨xb_1, rfl, h1⟩, b1⟩
    obtain ⟨Q_1, sq_1, S1, b2⟩ := PvS.new (w := w) (below_over S_1.out.p.bel b1) h1.pv
    have G_1 : Hid (UnS w Q_1 gp _ x xa_1 P A_1 m k z b ∧ PvS w Q_1 Z_1.heap.size xb_1 P) := ⟨(S_1.out.below b1).below b2, S1⟩
    clear S1 b2 h1 b1 f0_1 f1_1
    have f0_1 := G_1.out.2.ld
    have f1_1 := G_1.out.1.p.ld
    have f2_1 := G_1.out.1.a.ld
    go_wp2_with fail
    refine (rsame_yes xb_1 x P Q_1 G_1.out.2.pv G_1.out.1.p.pv).mono ?_
    rintro _ N_1 ⟨rfl, b1⟩
    have O_1 : Hid (UnS w N_1 gp _ x xa_1 P A_1 m k z b) := G_1.out.1.below b1
    clear b1 f0_1 f1_1 f2_1
    have f1_1 := O_1.out.p.ld
    have f2_1 := O_1.out.a.ld
    go_wp2_with fail
    refine (rsame_no xa_1 x A_1 P N_1 O_1.out.a.pv O_1.out.p.pv UU_1.out.2.1).mono ?_
    rintro _ M_1 ⟨rfl, b1⟩
    have F_1 : Hid (UnS w M_1 gp _ x xa_1 P A_1 m k z b) := O_1.out.below b1
    clear b1 f1_1 f2_1
    obtain ⟨⟨A_2, e_2⟩, hqe⟩ : ∃ zz, doC P ⟨3, ⟨0, 0, 0⟩, k, ⟨0, []⟩⟩ = zz := ⟨_, rfl⟩
    have D_2 : Hid (doC P ⟨3, ⟨0, 0, 0⟩, k, ⟨0, []⟩⟩ = (A_2, e_2)) := hqe
    clear hqe
    have f0_2 := F_1.out.p.ld
    have f1_2 := F_1.out.c.ld
    go_wp2_with fail
    refine (do_is (y := Cm.mk 3 ⟨0, 0, 0⟩ k ⟨0, none, 0, 0⟩ zT) F_1.out.p.pv E0.out.2 ⟨rfl, rfl, rfl, rfl, SlAt.none' _⟩ (by show 0 ≤ 1000; decide) D_2.out).mono ?_
    rintro _ Y_2 ⟨⟨xa_2, rfl, h1⟩, b1⟩
    obtain ⟨V_2, s_2, S1⟩ := (F_1.out.below b1).st h1.pv
    have S_2 : Hid (UnS w V_2 gp _ x xa_2 P A_2 m k z b) := S1
    clear S1 h1 b1 f0_2 f1_2
    by_cases he_2 : e_2 = 0
    · subst he_2
      have UU_2 : Hid (doC A_2 ⟨4, ⟨0, 0, 0⟩, k, ⟨0, []⟩⟩ = (P, 0) ∧ A_2 ≠ P ∧ Sz A_2) := by
        obtain ⟨u1, u2⟩ := un_carry E0.out.1 _ _ D_2.out _ _
        exact ⟨u1, u2, chk_sz (by have := do_chk ⟨3, ⟨0, 0, 0⟩, k, ⟨0, []⟩⟩ E0.out.1; rw [D_2.out] at this; exact this)⟩
      have f0_2 := S_2.out.a.ld
      have f1_2 := S_2.out.c.ld
      go_wp2_with fail
      refine (do_is (y := Cm.mk 4 ⟨0, 0, 0⟩ k ⟨0, none, 0, 0⟩ zT) S_2.out.a.pv UU_2.out.2.2 ⟨rfl, rfl, rfl, rfl, SlAt.none' _⟩ (by show 0 ≤ 1000; decide) UU_2.out.1).mono ?_
      rintro _ Z_2 ⟨⟨xb_2, rfl, h1⟩, b1⟩
      obtain ⟨Q_2, sq_2, S1, b2⟩ := PvS.new (w := w) (below_over S_2.out.p.bel b1) h1.pv
      have G_2 : Hid (UnS w Q_2 gp _ x xa_2 P A_2 m k z b ∧ PvS w Q_2 Z_2.heap.size xb_2 P) := ⟨(S_2.out.below b1).below b2, S1⟩
      clear S1 b2 h1 b1 f0_2 f1_2
      have f0_2 := G_2.out.2.ld
      have f1_2 := G_2.out.1.p.ld
      have f2_2 := G_2.out.1.a.ld
      go_wp2_with fail
      refine (rsame_yes xb_2 x P Q_2 G_2.out.2.pv G_2.out.1.p.pv).mono ?_
      rintro _ N_2 ⟨rfl, b1⟩
      have O_2 : Hid (UnS w N_2 gp _ x xa_2 P A_2 m k z b) := G_2.out.1.below b1
      clear b1 f0_2 f1_2 f2_2
      have f1_2 := O_2.out.p.ld
      have f2_2 := O_2.out.a.ld
      go_wp2_with fail
      refine (rsame_no xa_2 x A_2 P N_2 O_2.out.a.pv O_2.out.p.pv UU_2.out.2.1).mono ?_
      rintro _ M_2 ⟨rfl, b1⟩
      have F_2 : Hid (UnS w M_2 gp _ x xa_2 P A_2 m k z b) := O_2.out.below b1
      clear b1 f1_2 f2_2
      have v0_3 := F_2.out.p.ld
      have v1_3 := F_2.out.r.c0
      rw [HV.out.1] at v1_3
      obtain ⟨T_3, hT⟩ : ∃ zz, (pts P b.v).isSome = zz := ⟨_, rfl⟩
      have HT : Hid ((pts P b.v).isSome = T_3) := hT
      clear hT
      go_wp2_with fail
      refine (rpts_any x P b.v _ F_2.out.p.pv).mono ?_
      rintro _ R_3 ⟨pv, rfl, ⟨ra, rn, rc, rfl, _⟩, hb'⟩
      rw [HT.out]
      have S_3r : Hid (UnS w R_3 gp _ x _ P _ m k z b) := F_2.out.below hb'
      clear hb' v0_3 v1_3
      obtain ⟨⟨A_3, e_3⟩, hqe⟩ : ∃ zz, doC P ⟨5, ⟨0, 0, 0⟩, ⟨0, 0⟩, b⟩ = zz := ⟨_, rfl⟩
      have D_3 : Hid (doC P ⟨5, ⟨0, 0, 0⟩, ⟨0, 0⟩, b⟩ = (A_3, e_3)) := hqe
      clear hqe
      have f0_3 := S_3r.out.p.ld
      have f1_3 := S_3r.out.r.ld
      go_wp2_with fail
      refine (do_is (y := Cm.mk 5 ⟨0, 0, 0⟩ ⟨0, 0⟩ z zT) S_3r.out.p.pv E0.out.2 ⟨rfl, rfl, rfl, HV.out.1, S_3r.out.zs⟩ (HV.out.2) D_3.out).mono ?_
      rintro _ Y_3 ⟨⟨xa_3, rfl, h1⟩, b1⟩
      obtain ⟨V_3, s_3, S1⟩ := (S_3r.out.below b1).st h1.pv
      have S_3 : Hid (UnS w V_3 gp _ x xa_3 P A_3 m k z b) := S1
      clear S1 h1 b1 f0_3 f1_3
      by_cases he_3 : e_3 = 0
      · subst he_3
        cases T_3
        · skip
          have UU_3 : Hid (doC A_3 ⟨6, ⟨0, 0, 0⟩, ⟨0, 0⟩, b⟩ = (P, 0) ∧ A_3 ≠ P ∧ Sz A_3) := by
            obtain ⟨u1, u2⟩ := un_member E0.out.1 _ _ (by cases hh : pts P b.v with | none => rfl | some _ => rw [hh] at HT; exact absurd HT.out (by simp)) D_3.out _ _
            exact ⟨u1, u2, chk_sz (by have := do_chk ⟨5, ⟨0, 0, 0⟩, ⟨0, 0⟩, b⟩ E0.out.1; rw [D_3.out] at this; exact this)⟩
          have f0_3 := S_3.out.a.ld
          have f1_3 := S_3.out.r.ld
          go_wp2_with fail
          refine (do_is (y := Cm.mk 6 ⟨0, 0, 0⟩ ⟨0, 0⟩ z zT) S_3.out.a.pv UU_3.out.2.2 ⟨rfl, rfl, rfl, HV.out.1, S_3.out.zs⟩ (HV.out.2) UU_3.out.1).mono ?_
          rintro _ Z_3 ⟨⟨xb_3, rfl, h1⟩, b1⟩
          obtain ⟨Q_3, sq_3, S1, b2⟩ := PvS.new (w := w) (below_over S_3.out.p.bel b1) h1.pv
          have G_3 : Hid (UnS w Q_3 gp _ x xa_3 P A_3 m k z b ∧ PvS w Q_3 Z_3.heap.size xb_3 P) := ⟨(S_3.out.below b1).below b2, S1⟩
          clear S1 b2 h1 b1 f0_3 f1_3
          have f0_3 := G_3.out.2.ld
          have f1_3 := G_3.out.1.p.ld
          have f2_3 := G_3.out.1.a.ld
          go_wp2_with fail
          refine (rsame_yes xb_3 x P Q_3 G_3.out.2.pv G_3.out.1.p.pv).mono ?_
          rintro _ N_3 ⟨rfl, b1⟩
          have O_3 : Hid (UnS w N_3 gp _ x xa_3 P A_3 m k z b) := G_3.out.1.below b1
          clear b1 f0_3 f1_3 f2_3
          have f1_3 := O_3.out.p.ld
          have f2_3 := O_3.out.a.ld
          go_wp2_with fail
          refine (rsame_no xa_3 x A_3 P N_3 O_3.out.a.pv O_3.out.p.pv UU_3.out.2.1).mono ?_
          rintro _ M_3 ⟨rfl, b1⟩
          have F_3 : Hid (UnS w M_3 gp _ x xa_3 P A_3 m k z b) := O_3.out.below b1
          clear b1 f1_3 f2_3
          go_wp2_with fail
          refine (awake_any _).mono ?_
          rintro _ VZ ⟨rfl, bz⟩
          have MZ : Hid (Below w.heap.size w VZ) := below_over F_3.out.p.bel bz
          clear bz
          go_wp2
          go_ret
          exact ⟨rfl, MZ.out⟩
        · skip
          go_wp2_with fail
          refine (awake_any _).mono ?_
          rintro _ VZ ⟨rfl, bz⟩
          have MZ : Hid (Below w.heap.size w VZ) := below_over S_3.out.p.bel bz
          clear bz
          go_wp2
          go_ret
          exact ⟨rfl, MZ.out⟩
      · have ee_3 : (e_3 == 0) = false := by simp [he_3]
        clear he_3
        go_wp2_with fail
        refine (awake_any _).mono ?_
        rintro _ VZ ⟨rfl, bz⟩
        have MZ : Hid (Below w.heap.size w VZ) := below_over S_3.out.p.bel bz
        clear bz
        go_wp2
        go_ret
        exact ⟨rfl, MZ.out⟩
    · have ee_2 : (e_2 == 0) = false := by simp [he_2]
      clear he_2
      have v0_4 := S_2.out.p.ld
      have v1_4 := S_2.out.r.c0
      rw [HV.out.1] at v1_4
      obtain ⟨T_4, hT⟩ : ∃ zz, (pts P b.v).isSome = zz := ⟨_, rfl⟩
      have HT : Hid ((pts P b.v).isSome = T_4) := hT
      clear hT
      go_wp2_with fail
      refine (rpts_any x P b.v _ S_2.out.p.pv).mono ?_
      rintro _ R_4 ⟨pv, rfl, ⟨ra, rn, rc, rfl, _⟩, hb'⟩
      rw [HT.out]
      have S_4r : Hid (UnS w R_4 gp _ x _ P _ m k z b) := S_2.out.below hb'
      clear hb' v0_4 v1_4
      obtain ⟨⟨A_4, e_4⟩, hqe⟩ : ∃ zz, doC P ⟨5, ⟨0, 0, 0⟩, ⟨0, 0⟩, b⟩ = zz := ⟨_, rfl⟩
      have D_4 : Hid (doC P ⟨5, ⟨0, 0, 0⟩, ⟨0, 0⟩, b⟩ = (A_4, e_4)) := hqe
      clear hqe
      have f0_4 := S_4r.out.p.ld
      have f1_4 := S_4r.out.r.ld
      go_wp2_with fail
      refine (do_is (y := Cm.mk 5 ⟨0, 0, 0⟩ ⟨0, 0⟩ z zT) S_4r.out.p.pv E0.out.2 ⟨rfl, rfl, rfl, HV.out.1, S_4r.out.zs⟩ (HV.out.2) D_4.out).mono ?_
      rintro _ Y_4 ⟨⟨xa_4, rfl, h1⟩, b1⟩
      obtain ⟨V_4, s_4, S1⟩ := (S_4r.out.below b1).st h1.pv
      have S_4 : Hid (UnS w V_4 gp _ x xa_4 P A_4 m k z b) := S1
      clear S1 h1 b1 f0_4 f1_4
      by_cases he_4 : e_4 = 0
      · subst he_4
        cases T_4
        · skip
          have UU_4 : Hid (doC A_4 ⟨6, ⟨0, 0, 0⟩, ⟨0, 0⟩, b⟩ = (P, 0) ∧ A_4 ≠ P ∧ Sz A_4) := by
            obtain ⟨u1, u2⟩ := un_member E0.out.1 _ _ (by cases hh : pts P b.v with | none => rfl | some _ => rw [hh] at HT; exact absurd HT.out (by simp)) D_4.out _ _
            exact ⟨u1, u2, chk_sz (by have := do_chk ⟨5, ⟨0, 0, 0⟩, ⟨0, 0⟩, b⟩ E0.out.1; rw [D_4.out] at this; exact this)⟩
          have f0_4 := S_4.out.a.ld
          have f1_4 := S_4.out.r.ld
          go_wp2_with fail
          refine (do_is (y := Cm.mk 6 ⟨0, 0, 0⟩ ⟨0, 0⟩ z zT) S_4.out.a.pv UU_4.out.2.2 ⟨rfl, rfl, rfl, HV.out.1, S_4.out.zs⟩ (HV.out.2) UU_4.out.1).mono ?_
          rintro _ Z_4 ⟨⟨xb_4, rfl, h1⟩, b1⟩
          obtain ⟨Q_4, sq_4, S1, b2⟩ := PvS.new (w := w) (below_over S_4.out.p.bel b1) h1.pv
          have G_4 : Hid (UnS w Q_4 gp _ x xa_4 P A_4 m k z b ∧ PvS w Q_4 Z_4.heap.size xb_4 P) := ⟨(S_4.out.below b1).below b2, S1⟩
          clear S1 b2 h1 b1 f0_4 f1_4
          have f0_4 := G_4.out.2.ld
          have f1_4 := G_4.out.1.p.ld
          have f2_4 := G_4.out.1.a.ld
          go_wp2_with fail
          refine (rsame_yes xb_4 x P Q_4 G_4.out.2.pv G_4.out.1.p.pv).mono ?_
          rintro _ N_4 ⟨rfl, b1⟩
          have O_4 : Hid (UnS w N_4 gp _ x xa_4 P A_4 m k z b) := G_4.out.1.below b1
          clear b1 f0_4 f1_4 f2_4
          have f1_4 := O_4.out.p.ld
          have f2_4 := O_4.out.a.ld
          go_wp2_with fail
          refine (rsame_no xa_4 x A_4 P N_4 O_4.out.a.pv O_4.out.p.pv UU_4.out.2.1).mono ?_
          rintro _ M_4 ⟨rfl, b1⟩
          have F_4 : Hid (UnS w M_4 gp _ x xa_4 P A_4 m k z b) := O_4.out.below b1
          clear b1 f1_4 f2_4
          go_wp2_with fail
          refine (awake_any _).mono ?_
          rintro _ VZ ⟨rfl, bz⟩
          have MZ : Hid (Below w.heap.size w VZ) := below_over F_4.out.p.bel bz
          clear bz
          go_wp2
          go_ret
          exact ⟨rfl, MZ.out⟩
        · skip
          go_wp2_with fail
          refine (awake_any _).mono ?_
          rintro _ VZ ⟨rfl, bz⟩
          have MZ : Hid (Below w.heap.size w VZ) := below_over S_4.out.p.bel bz
          clear bz
          go_wp2
          go_ret
          exact ⟨rfl, MZ.out⟩
      · have ee_4 : (e_4 == 0) = false := by simp [he_4]
        clear he_4
        go_wp2_with fail
        refine (awake_any _).mono ?_
        rintro _ VZ ⟨rfl, bz⟩
        have MZ : Hid (Below w.heap.size w VZ) := below_over S_4.out.p.bel bz
        clear bz
        go_wp2
        go_ret
        exact ⟨rfl, MZ.out⟩
  · have ee_1 : (e_1 == 0) = false := by simp [he_1]
    clear he_1
    obtain ⟨⟨A_5, e_5⟩, hqe⟩ : ∃ zz, doC P ⟨3, ⟨0, 0, 0⟩, k, ⟨0, []⟩⟩ = zz := ⟨_, rfl⟩
    have D_5 : Hid (doC P ⟨3, ⟨0, 0, 0⟩, k, ⟨0, []⟩⟩ = (A_5, e_5)) := hqe
    clear hqe
    have f0_5 := S_1.out.p.ld
    have f1_5 := S_1.out.c.ld
    go_wp2_with fail
    refine (do_is (y := Cm.mk 3 ⟨0, 0, 0⟩ k ⟨0, none, 0, 0⟩ zT) S_1.out.p.pv E0.out.2 ⟨rfl, rfl, rfl, rfl, SlAt.none' _⟩ (by show 0 ≤ 1000; decide) D_5.out).mono ?_
    rintro _ Y_5 ⟨⟨xa_5, rfl, h1⟩, b1⟩
    obtain ⟨V_5, s_5, S1⟩ := (S_1.out.below b1).st h1.pv
    have S_5 : Hid (UnS w V_5 gp _ x xa_5 P A_5 m k z b) := S1
    clear S1 h1 b1 f0_5 f1_5
    by_cases he_5 : e_5 = 0
    · subst he_5
      have UU_5 : Hid (doC A_5 ⟨4, ⟨0, 0, 0⟩, k, ⟨0, []⟩⟩ = (P, 0) ∧ A_5 ≠ P ∧ Sz A_5) := by
        obtain ⟨u1, u2⟩ := un_carry E0.out.1 _ _ D_5.out _ _
        exact ⟨u1, u2, chk_sz (by have := do_chk ⟨3, ⟨0, 0, 0⟩, k, ⟨0, []⟩⟩ E0.out.1; rw [D_5.out] at this; exact this)⟩
      have f0_5 := S_5.out.a.ld
      have f1_5 := S_5.out.c.ld
      go_wp2_with fail
      refine (do_is (y := Cm.mk 4 ⟨0, 0, 0⟩ k ⟨0, none, 0, 0⟩ zT) S_5.out.a.pv UU_5.out.2.2 ⟨rfl, rfl, rfl, rfl, SlAt.none' _⟩ (by show 0 ≤ 1000; decide) UU_5.out.1).mono ?_
      rintro _ Z_5 ⟨⟨xb_5, rfl, h1⟩, b1⟩
      obtain ⟨Q_5, sq_5, S1, b2⟩ := PvS.new (w := w) (below_over S_5.out.p.bel b1) h1.pv
      have G_5 : Hid (UnS w Q_5 gp _ x xa_5 P A_5 m k z b ∧ PvS w Q_5 Z_5.heap.size xb_5 P) := ⟨(S_5.out.below b1).below b2, S1⟩
      clear S1 b2 h1 b1 f0_5 f1_5
      have f0_5 := G_5.out.2.ld
      have f1_5 := G_5.out.1.p.ld
      have f2_5 := G_5.out.1.a.ld
      go_wp2_with fail
      refine (rsame_yes xb_5 x P Q_5 G_5.out.2.pv G_5.out.1.p.pv).mono ?_
      rintro _ N_5 ⟨rfl, b1⟩
      have O_5 : Hid (UnS w N_5 gp _ x xa_5 P A_5 m k z b) := G_5.out.1.below b1
      clear b1 f0_5 f1_5 f2_5
      have f1_5 := O_5.out.p.ld
      have f2_5 := O_5.out.a.ld
      go_wp2_with fail
      refine (rsame_no xa_5 x A_5 P N_5 O_5.out.a.pv O_5.out.p.pv UU_5.out.2.1).mono ?_
      rintro _ M_5 ⟨rfl, b1⟩
      have F_5 : Hid (UnS w M_5 gp _ x xa_5 P A_5 m k z b) := O_5.out.below b1
      clear b1 f1_5 f2_5
      have v0_6 := F_5.out.p.ld
      have v1_6 := F_5.out.r.c0
      rw [HV.out.1] at v1_6
      obtain ⟨T_6, hT⟩ : ∃ zz, (pts P b.v).isSome = zz := ⟨_, rfl⟩
      have HT : Hid ((pts P b.v).isSome = T_6) := hT
      clear hT
      go_wp2_with fail
      refine (rpts_any x P b.v _ F_5.out.p.pv).mono ?_
      rintro _ R_6 ⟨pv, rfl, ⟨ra, rn, rc, rfl, _⟩, hb'⟩
      rw [HT.out]
      have S_6r : Hid (UnS w R_6 gp _ x _ P _ m k z b) := F_5.out.below hb'
      clear hb' v0_6 v1_6
      obtain ⟨⟨A_6, e_6⟩, hqe⟩ : ∃ zz, doC P ⟨5, ⟨0, 0, 0⟩, ⟨0, 0⟩, b⟩ = zz := ⟨_, rfl⟩
      have D_6 : Hid (doC P ⟨5, ⟨0, 0, 0⟩, ⟨0, 0⟩, b⟩ = (A_6, e_6)) := hqe
      clear hqe
      have f0_6 := S_6r.out.p.ld
      have f1_6 := S_6r.out.r.ld
      go_wp2_with fail
      refine (do_is (y := Cm.mk 5 ⟨0, 0, 0⟩ ⟨0, 0⟩ z zT) S_6r.out.p.pv E0.out.2 ⟨rfl, rfl, rfl, HV.out.1, S_6r.out.zs⟩ (HV.out.2) D_6.out).mono ?_
      rintro _ Y_6 ⟨⟨xa_6, rfl, h1⟩, b1⟩
      obtain ⟨V_6, s_6, S1⟩ := (S_6r.out.below b1).st h1.pv
      have S_6 : Hid (UnS w V_6 gp _ x xa_6 P A_6 m k z b) := S1
      clear S1 h1 b1 f0_6 f1_6
      by_cases he_6 : e_6 = 0
      · subst he_6
        cases T_6
        · skip
          have UU_6 : Hid (doC A_6 ⟨6, ⟨0, 0, 0⟩, ⟨0, 0⟩, b⟩ = (P, 0) ∧ A_6 ≠ P ∧ Sz A_6) := by
            obtain ⟨u1, u2⟩ := un_member E0.out.1 _ _ (by cases hh : pts P b.v with | none => rfl | some _ => rw [hh] at HT; exact absurd HT.out (by simp)) D_6.out _ _
            exact ⟨u1, u2, chk_sz (by have := do_chk ⟨5, ⟨0, 0, 0⟩, ⟨0, 0⟩, b⟩ E0.out.1; rw [D_6.out] at this; exact this)⟩
          have f0_6 := S_6.out.a.ld
          have f1_6 := S_6.out.r.ld
          go_wp2_with fail
          refine (do_is (y := Cm.mk 6 ⟨0, 0, 0⟩ ⟨0, 0⟩ z zT) S_6.out.a.pv UU_6.out.2.2 ⟨rfl, rfl, rfl, HV.out.1, S_6.out.zs⟩ (HV.out.2) UU_6.out.1).mono ?_
          rintro _ Z_6 ⟨⟨xb_6, rfl, h1⟩, b1⟩
          obtain ⟨Q_6, sq_6, S1, b2⟩ := PvS.new (w := w) (below_over S_6.out.p.bel b1) h1.pv
          have G_6 : Hid (UnS w Q_6 gp _ x xa_6 P A_6 m k z b ∧ PvS w Q_6 Z_6.heap.size xb_6 P) := ⟨(S_6.out.below b1).below b2, S1⟩
          clear S1 b2 h1 b1 f0_6 f1_6
          have f0_6 := G_6.out.2.ld
          have f1_6 := G_6.out.1.p.ld
          have f2_6 := G_6.out.1.a.ld
          go_wp2_with fail
          refine (rsame_yes xb_6 x P Q_6 G_6.out.2.pv G_6.out.1.p.pv).mono ?_
          rintro _ N_6 ⟨rfl, b1⟩
          have O_6 : Hid (UnS w N_6 gp _ x xa_6 P A_6 m k z b) := G_6.out.1.below b1
          clear b1 f0_6 f1_6 f2_6
          have f1_6 := O_6.out.p.ld
          have f2_6 := O_6.out.a.ld
          go_wp2_with fail
          refine (rsame_no xa_6 x A_6 P N_6 O_6.out.a.pv O_6.out.p.pv UU_6.out.2.1).mono ?_
          rintro _ M_6 ⟨rfl, b1⟩
          have F_6 : Hid (UnS w M_6 gp _ x xa_6 P A_6 m k z b) := O_6.out.below b1
          clear b1 f1_6 f2_6
          go_wp2_with fail
          refine (awake_any _).mono ?_
          rintro _ VZ ⟨rfl, bz⟩
          have MZ : Hid (Below w.heap.size w VZ) := below_over F_6.out.p.bel bz
          clear bz
          go_wp2
          go_ret
          exact ⟨rfl, MZ.out⟩
        · skip
          go_wp2_with fail
          refine (awake_any _).mono ?_
          rintro _ VZ ⟨rfl, bz⟩
          have MZ : Hid (Below w.heap.size w VZ) := below_over S_6.out.p.bel bz
          clear bz
          go_wp2
          go_ret
          exact ⟨rfl, MZ.out⟩
      · have ee_6 : (e_6 == 0) = false := by simp [he_6]
        clear he_6
        go_wp2_with fail
        refine (awake_any _).mono ?_
        rintro _ VZ ⟨rfl, bz⟩
        have MZ : Hid (Below w.heap.size w VZ) := below_over S_6.out.p.bel bz
        clear bz
        go_wp2
        go_ret
        exact ⟨rfl, MZ.out⟩
    · have ee_5 : (e_5 == 0) = false := by simp [he_5]
      clear he_5
      have v0_7 := S_5.out.p.ld
      have v1_7 := S_5.out.r.c0
      rw [HV.out.1] at v1_7
      obtain ⟨T_7, hT⟩ : ∃ zz, (pts P b.v).isSome = zz := ⟨_, rfl⟩
      have HT : Hid ((pts P b.v).isSome = T_7) := hT
      clear hT
      go_wp2_with fail
      refine (rpts_any x P b.v _ S_5.out.p.pv).mono ?_
      rintro _ R_7 ⟨pv, rfl, ⟨ra, rn, rc, rfl, _⟩, hb'⟩
      rw [HT.out]
      have S_7r : Hid (UnS w R_7 gp _ x _ P _ m k z b) := S_5.out.below hb'
      clear hb' v0_7 v1_7
      obtain ⟨⟨A_7, e_7⟩, hqe⟩ : ∃ zz, doC P ⟨5, ⟨0, 0, 0⟩, ⟨0, 0⟩, b⟩ = zz := ⟨_, rfl⟩
      have D_7 : Hid (doC P ⟨5, ⟨0, 0, 0⟩, ⟨0, 0⟩, b⟩ = (A_7, e_7)) := hqe
      clear hqe
      have f0_7 := S_7r.out.p.ld
      have f1_7 := S_7r.out.r.ld
      go_wp2_with fail
      refine (do_is (y := Cm.mk 5 ⟨0, 0, 0⟩ ⟨0, 0⟩ z zT) S_7r.out.p.pv E0.out.2 ⟨rfl, rfl, rfl, HV.out.1, S_7r.out.zs⟩ (HV.out.2) D_7.out).mono ?_
      rintro _ Y_7 ⟨⟨xa_7, rfl, h1⟩, b1⟩
      obtain ⟨V_7, s_7, S1⟩ := (S_7r.out.below b1).st h1.pv
      have S_7 : Hid (UnS w V_7 gp _ x xa_7 P A_7 m k z b) := S1
      clear S1 h1 b1 f0_7 f1_7
      by_cases he_7 : e_7 = 0
      · subst he_7
        cases T_7
        · skip
          have UU_7 : Hid (doC A_7 ⟨6, ⟨0, 0, 0⟩, ⟨0, 0⟩, b⟩ = (P, 0) ∧ A_7 ≠ P ∧ Sz A_7) := by
            obtain ⟨u1, u2⟩ := un_member E0.out.1 _ _ (by cases hh : pts P b.v with | none => rfl | some _ => rw [hh] at HT; exact absurd HT.out (by simp)) D_7.out _ _
            exact ⟨u1, u2, chk_sz (by have := do_chk ⟨5, ⟨0, 0, 0⟩, ⟨0, 0⟩, b⟩ E0.out.1; rw [D_7.out] at this; exact this)⟩
          have f0_7 := S_7.out.a.ld
          have f1_7 := S_7.out.r.ld
          go_wp2_with fail
          refine (do_is (y := Cm.mk 6 ⟨0, 0, 0⟩ ⟨0, 0⟩ z zT) S_7.out.a.pv UU_7.out.2.2 ⟨rfl, rfl, rfl, HV.out.1, S_7.out.zs⟩ (HV.out.2) UU_7.out.1).mono ?_
          rintro _ Z_7 ⟨⟨xb_7, rfl, h1⟩, b1⟩
          obtain ⟨Q_7, sq_7, S1, b2⟩ := PvS.new (w := w) (below_over S_7.out.p.bel b1) h1.pv
          have G_7 : Hid (UnS w Q_7 gp _ x xa_7 P A_7 m k z b ∧ PvS w Q_7 Z_7.heap.size xb_7 P) := ⟨(S_7.out.below b1).below b2, S1⟩
          clear S1 b2 h1 b1 f0_7 f1_7
          have f0_7 := G_7.out.2.ld
          have f1_7 := G_7.out.1.p.ld
          have f2_7 := G_7.out.1.a.ld
          go_wp2_with fail
          refine (rsame_yes xb_7 x P Q_7 G_7.out.2.pv G_7.out.1.p.pv).mono ?_
          rintro _ N_7 ⟨rfl, b1⟩
          have O_7 : Hid (UnS w N_7 gp _ x xa_7 P A_7 m k z b) := G_7.out.1.below b1
          clear b1 f0_7 f1_7 f2_7
          have f1_7 := O_7.out.p.ld
          have f2_7 := O_7.out.a.ld
          go_wp2_with fail
          refine (rsame_no xa_7 x A_7 P N_7 O_7.out.a.pv O_7.out.p.pv UU_7.out.2.1).mono ?_
          rintro _ M_7 ⟨rfl, b1⟩
          have F_7 : Hid (UnS w M_7 gp _ x xa_7 P A_7 m k z b) := O_7.out.below b1
          clear b1 f1_7 f2_7
          go_wp2_with fail
          refine (awake_any _).mono ?_
          rintro _ VZ ⟨rfl, bz⟩
          have MZ : Hid (Below w.heap.size w VZ) := below_over F_7.out.p.bel bz
          clear bz
          go_wp2
          go_ret
          exact ⟨rfl, MZ.out⟩
        · skip
          go_wp2_with fail
          refine (awake_any _).mono ?_
          rintro _ VZ ⟨rfl, bz⟩
          have MZ : Hid (Below w.heap.size w VZ) := below_over S_7.out.p.bel bz
          clear bz
          go_wp2
          go_ret
          exact ⟨rfl, MZ.out⟩
      · have ee_7 : (e_7 == 0) = false := by simp [he_7]
        clear he_7
        go_wp2_with fail
        refine (awake_any _).mono ?_
        rintro _ VZ ⟨rfl, bz⟩
        have MZ : Hid (Below w.heap.size w VZ) := below_over S_7.out.p.bel bz
        clear bz
        go_wp2
        go_ret
        exact ⟨rfl, MZ.out⟩
end Go.Proofs.Ytmfjlhcobhilcaa
