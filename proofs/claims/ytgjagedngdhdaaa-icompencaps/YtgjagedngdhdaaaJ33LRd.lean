/-
  Which frame bytes are, and its service: the walk of the law, for every input. What is provisioned, and commands, that are handed in; closed facts of the program. What a tag, a service's tag and bytes that are handed in are; two closed facts of the program.
-/
import Derived.Test.YtgjagedngdhdaaaJ16XBFrame
import Derived.Test.YtgjagedngdhdaaaFw
import Derived.Test.YtgjagedngdhdaaaJ23Rd
import Derived.Test.YtgjagedngdhdaaaJ32Awa
import Derived.Test.YtgjagedngdhdaaaJ17Ref
import Derived.Handy
import Derived.OpenShut
import Derived.ChangeSlices
import Derived.ShutString
import Derived.ChangeOld
import Derived.Deep.Slices
import Derived.Test.YtgjagedngdhdaaaJ08XBytes
namespace Go.Proofs.Ytgjagedngdhdaaa

section
set_option linter.unusedVariables false
set_option maxRecDepth 4000
set_option linter.unusedSimpArgs false
open Go.RowKit
attribute [local go_sem ↓] ldP stP ldMc stMc ldFr stFr ldBf stBf slU S4.eqM_eq
attribute [local go_sem] gdM_mac eqM_self

/-- A law's variables: what is provisioned, and a frame, cut. -/
structure LwP (w W : World) (B bp bf : Nat) (y : Pr) (q : Pv) (f : S4.Fr) (s : Value) (l : List Int) : Prop where
  bel : Below w.heap.size w W
  pr : PrAt W bp y
  few : FewK w W B y q
  fr : FrAt W bf f s
  src : S4.Src w s l
theorem LwP.below {w W W' : World} {B bp bf : Nat} {y : Pr} {q : Pv} {f : S4.Fr} {s : Value} {l : List Int} (h : LwP w W B bp bf y q f s l) (hb : Below W.heap.size W W') : LwP w W' B bp bf y q f s l := ⟨below_over h.bel hb, h.pr.below hb, h.few.below hb, h.fr.below hb, h.src⟩
theorem LwP.pv {w W : World} {B bp bf : Nat} {y : Pr} {q : Pv} {f : S4.Fr} {s : Value} {l : List Int} (h : LwP w W B bp bf y q f s l) : IsPv W y q := h.few.pv h.bel
theorem LwP.sr {w W : World} {B bp bf : Nat} {y : Pr} {q : Pv} {f : S4.Fr} {s : Value} {l : List Int} (h : LwP w W B bp bf y q f s l) : S4.Src W s l := h.src.below h.bel

set_option maxHeartbeats 16000000 in
theorem reads_law (x : Pr) (p : Pv) (port : Int) (bv : Value) (bl : List Int) (f : S4.Fr) (z : Value) (l : List Int) (isid : Int) (w : World) (h : IsPv w x p) (hs : S4.Src w z l) (hb : ∀ x ∈ l, 0 ≤ x ∧ x ≤ 255) (hf : f.ok) (hbs : S4.Src w bv bl) (hbb : ∀ x ∈ bl, 0 ≤ x ∧ x ≤ 255) :
    Calls Try.prog 3 #[.agg x.cs, .int .i64 port, bv, .agg (S4.fcs f z), .int .i64 isid] w fun r w' => r = .returned (.bool true) ∧ Below w.heap.size w w' := by
  obtain ⟨ba, bn, bc, rfl⟩ := S4.src_form hbs
  obtain ⟨hn, hc, hm⟩ := S4.src_short hbs
  obtain ⟨W1, hW1, r1, b1, z1⟩ := PrAt.new w x
  obtain ⟨V, hV, r2, b2, z2⟩ := FrAt.new W1 f z
  have B0 : Below w.heap.size w V := below_over b1 b2
  have R1 := r1.below b2
  have R2 := r2
  have HB : Hid (Below w.heap.size w V ∧ PrAt V w.heap.size x ∧ FrAt V W1.heap.size f z ∧ w.heap.size < W1.heap.size ∧ W1.heap.size < V.heap.size) := ⟨B0, R1, R2, by omega, by omega⟩
  have HI : Hid (IsPv w x p ∧ S4.Src w z l ∧ (∀ x ∈ l, 0 ≤ x ∧ x ≤ 255) ∧ f.ok) := ⟨h, hs, hb, hf⟩
  have l0 := R1.ld
  clear R1 R2 B0 h hs hb hf r1 r2 b1 b2 z1 z2
  have hn9 : (bn : Int) ≤ 9223372036854775807 := by unfold maxLen at hm; omega
  have HM : Hid (S4.Src w (.slice ba bn bc) bl ∧ (∀ x ∈ bl, 0 ≤ x ∧ x ≤ 255) ∧ bn ≤ bc) := ⟨hbs, hbb, hc⟩
  clear hbs hbb hn hc hm
  by_cases hN : 1600 < bn
  · have d1 : decide ((bn : Int) > 1600) = true := by simp; omega
    have d2 : decide ((1600 : Int) < (bn : Int)) = true := by simp; omega
    have t1 : ∀ Z : World, (slS 30 (.slice ba bn bc) none (some (.int .i64 1600)) none).run Try.prog Z = .ok (.slice ba 1600 bc) Z := slU_cut ba bn bc 1600 (by omega) HM.out.2.2
    have KB : Hid (S4.Src w (.slice ba 1600 bc) (bl.take 1600) ∧ (∀ x ∈ bl.take 1600, 0 ≤ x ∧ x ≤ 255) ∧ (bl.take 1600).length ≤ 1900) := ⟨src_cut HM.out.1 hN, fun x hx => HM.out.2.1 x (List.mem_of_mem_take hx), Nat.le_trans (List.length_take_le _ _) (by decide)⟩
    obtain ⟨bm, hbm⟩ : ∃ e, bl.take 1600 = e := ⟨_, rfl⟩
    rw [hbm] at KB
    clear hN hbm HM
    go_enter Try.func3, Try.ntmps3
    go_wp2_with fail
    refine (few_at x p w V HI.out.1 HB.out.1).mono ?_
    rintro _ X1 ⟨⟨y, rfl, fy⟩, bx1⟩
    obtain ⟨Y1, s1, p1, g1⟩ := (HB.out.2.1.below bx1).st (y := y) (fy.pv (below_over HB.out.1 bx1)).one
    have K1 : Hid (PrAt Y1 w.heap.size y ∧ FewK w Y1 V.heap.size y (fewP p) ∧ Below w.heap.size w Y1 ∧ FrAt Y1 W1.heap.size f z) := ⟨p1, fy.kept g1 (by have := HB.out.2.2.2; omega), gro (below_over HB.out.1 bx1) g1 (Nat.le_refl _) (below_over HB.out.1 bx1).size, (HB.out.2.2.1.below bx1).keptBut g1 (by have := HB.out.2.2.2.1; simp; omega)⟩
    clear fy bx1 p1 g1 l0
    have l0 := K1.out.2.2.2.ld
    go_wp2_with fail
    refine (fewf_any f z l w Y1 HI.out.2.1 K1.out.2.2.1).mono ?_
    rintro _ X2 ⟨⟨s, rfl, fs, _⟩, bx2⟩
    obtain ⟨Y2, s2, p2, g2⟩ := (K1.out.2.2.2.below bx2).st f s (S4.src_one fs)
    have K : Hid (LwP w Y2 V.heap.size w.heap.size W1.heap.size y (fewP p) f s (l.take 1510)) := ⟨gro (below_over K1.out.2.2.1 bx2) g2 (by have := HB.out.2.2.2.1; omega) (below_over K1.out.2.2.1 bx2).size, (K1.out.1.below bx2).keptBut g2 (by have := HB.out.2.2.2.1; simp; omega), (K1.out.2.1.below bx2).kept g2 (by have := HB.out.2.2.2; omega), p2, fs⟩
    have HL : Hid ((∀ x ∈ l.take 1510, 0 ≤ x ∧ x ≤ 255) ∧ (l.take 1510).length ≤ 1510) := ⟨fun x hx => HI.out.2.2.1 x (List.mem_of_mem_take hx), List.length_take_le _ _⟩
    clear fs bx2 p2 g2 l0 K1
    obtain ⟨q, hq⟩ : ∃ e, fewP p = e := ⟨_, rfl⟩
    obtain ⟨m, hm⟩ : ∃ e, l.take 1510 = e := ⟨_, rfl⟩
    rw [hq, hm] at K
    rw [hm] at HL
    clear hq hm
    go_wp2_with fail
    refine (read_any (.slice ba 1600 bc) bm Y2 (KB.out.1.below K.out.bel) KB.out.2.1 KB.out.2.2).mono ?_
    rintro _ X3 ⟨t3, rfl, o3, bx3⟩
    obtain ⟨Y3, s3, m3, by3, z3⟩ := FrAt.put X3 (S4.dcF bm) t3 o3.one
    have K3 : Hid (LwP w Y3 V.heap.size w.heap.size W1.heap.size y q f s m ∧ FrAt Y3 X3.heap.size (S4.dcF bm) t3 ∧ S4.Src Y3 t3 (S4.dcR bm)) := ⟨(K.out.below bx3).below by3, m3, (o3.below by3).src⟩
    clear o3 bx3 m3 by3 z3
    go_wp2_with fail
    refine (rread_any (.slice ba 1600 bc) bm Y3 (KB.out.1.below K3.out.1.bel) KB.out.2.1 KB.out.2.2).mono ?_
    rintro _ X4 ⟨t4, rfl, o4, bx4⟩
    obtain ⟨Y4, s4, m4, by4, z4⟩ := FrAt.put X4 (S4.dcF bm) t4 o4.one
    have b44 : Below Y3.heap.size Y3 Y4 := below_over bx4 by4
    have K4 : Hid (LwP w Y4 V.heap.size w.heap.size W1.heap.size y q f s m ∧ (FrAt Y4 X3.heap.size (S4.dcF bm) t3 ∧ S4.Src Y4 t3 (S4.dcR bm)) ∧ FrAt Y4 X4.heap.size (S4.dcF bm) t4 ∧ S4.Src Y4 t4 (S4.dcR bm)) := ⟨K3.out.1.below b44, ⟨K3.out.2.1.below b44, K3.out.2.2.below b44⟩, m4, (o4.below by4).src⟩
    have l0 := K4.out.1.pr.ld
    have l1 := K4.out.1.fr.ld
    clear o4 bx4 m4 by4 z4 b44 K3
    go_wp2_with fail
    refine (cls_any y q port f s m Y4 K4.out.1.pv K4.out.1.sr HL.out.1 HI.out.2.2.2).mono ?_
    rintro _ X5 ⟨rfl, bx5⟩
    have K5 : Hid (LwP w X5 V.heap.size w.heap.size W1.heap.size y q f s m ∧ (FrAt X5 X3.heap.size (S4.dcF bm) t3 ∧ S4.Src X5 t3 (S4.dcR bm)) ∧ FrAt X5 X4.heap.size (S4.dcF bm) t4 ∧ S4.Src X5 t4 (S4.dcR bm)) := ⟨K4.out.1.below bx5, ⟨K4.out.2.1.1.below bx5, K4.out.2.1.2.below bx5⟩, K4.out.2.2.1.below bx5, K4.out.2.2.2.below bx5⟩
    clear l0 l1 bx5
    have l0 := K5.out.1.pr.ld
    have l1 := K5.out.1.fr.ld
    go_wp2_with fail
    refine (rcls_any y q port f s m X5 K5.out.1.pv K5.out.1.sr HL.out.1 HI.out.2.2.2).mono ?_
    rintro _ X6 ⟨rfl, bx6⟩
    have K6 : Hid (Below w.heap.size w X6 ∧ (FrAt X6 X3.heap.size (S4.dcF bm) t3 ∧ S4.Src X6 t3 (S4.dcR bm)) ∧ FrAt X6 X4.heap.size (S4.dcF bm) t4 ∧ S4.Src X6 t4 (S4.dcR bm)) := ⟨below_over K5.out.1.bel bx6, ⟨K5.out.2.1.1.below bx6, K5.out.2.1.2.below bx6⟩, K5.out.2.2.1.below bx6, K5.out.2.2.2.below bx6⟩
    clear l0 l1 bx6
    obtain ⟨CS, hCS⟩ : ∃ e, clsS q port f m = e := ⟨_, rfl⟩
    obtain ⟨CW, hCW⟩ : ∃ e, clsW q port f m = e := ⟨_, rfl⟩
    obtain ⟨RW, hRW⟩ : ∃ e, whyE (S4.dcE bm) = e := ⟨_, rfl⟩
    rw [hCS, hCW, hRW]
    clear hCS hCW hRW
    have l0 := K6.out.2.1.1.ld
    have l1 := K6.out.2.2.1.ld
    go_wp2_with fail
    refine (Calls.ret_eq (congrArg Value.bool (S4.same_self _ _)) (S4.sameref_any (S4.dcF bm) (S4.dcF bm) t3 t4 (S4.dcR bm) (S4.dcR bm) X6 K6.out.2.1.2 K6.out.2.2.2)).mono ?_
    rintro _ X7 ⟨rfl, bx7⟩
    have K7 : Hid (Below w.heap.size w X7) := below_over K6.out.1 bx7
    clear l0 l1 bx7
    go_wp2_with fail
    refine (group_any isid X7).mono ?_
    rintro _ X8 ⟨rfl, bx8⟩
    have K8 : Hid (Below w.heap.size w X8) := below_over K7.out bx8
    clear bx8
    go_wp2_with fail
    refine (rgroup_any isid X8).mono ?_
    rintro _ X9 ⟨rfl, bx9⟩
    have K9 : Hid (Below w.heap.size w X9) := below_over K8.out bx9
    clear bx9
    go_wp2_with fail
    refine (awake_any X9).mono ?_
    rintro _ X10 ⟨rfl, bx10⟩
    have K10 : Hid (Below w.heap.size w X10) := below_over K9.out bx10
    clear bx10
    go_wp2
    go_ret
    exact ⟨rfl, K10.out⟩
  · have d1 : decide ((bn : Int) > 1600) = false := by simp; omega
    have d2 : decide ((1600 : Int) < (bn : Int)) = false := by simp; omega
    have KB : Hid (S4.Src w (.slice ba bn bc) bl ∧ (∀ x ∈ bl, 0 ≤ x ∧ x ≤ 255) ∧ bl.length ≤ 1900) := ⟨HM.out.1, HM.out.2.1, by have := (S4.src_short HM.out.1).1; omega⟩
    obtain ⟨bm, hbm⟩ : ∃ e, bl = e := ⟨_, rfl⟩
    rw [hbm] at KB
    clear hN HM
    go_enter Try.func3, Try.ntmps3
    go_wp2_with fail
    refine (few_at x p w V HI.out.1 HB.out.1).mono ?_
    rintro _ X1 ⟨⟨y, rfl, fy⟩, bx1⟩
    obtain ⟨Y1, s1, p1, g1⟩ := (HB.out.2.1.below bx1).st (y := y) (fy.pv (below_over HB.out.1 bx1)).one
    have K1 : Hid (PrAt Y1 w.heap.size y ∧ FewK w Y1 V.heap.size y (fewP p) ∧ Below w.heap.size w Y1 ∧ FrAt Y1 W1.heap.size f z) := ⟨p1, fy.kept g1 (by have := HB.out.2.2.2; omega), gro (below_over HB.out.1 bx1) g1 (Nat.le_refl _) (below_over HB.out.1 bx1).size, (HB.out.2.2.1.below bx1).keptBut g1 (by have := HB.out.2.2.2.1; simp; omega)⟩
    clear fy bx1 p1 g1 l0
    have l0 := K1.out.2.2.2.ld
    go_wp2_with fail
    refine (fewf_any f z l w Y1 HI.out.2.1 K1.out.2.2.1).mono ?_
    rintro _ X2 ⟨⟨s, rfl, fs, _⟩, bx2⟩
    obtain ⟨Y2, s2, p2, g2⟩ := (K1.out.2.2.2.below bx2).st f s (S4.src_one fs)
    have K : Hid (LwP w Y2 V.heap.size w.heap.size W1.heap.size y (fewP p) f s (l.take 1510)) := ⟨gro (below_over K1.out.2.2.1 bx2) g2 (by have := HB.out.2.2.2.1; omega) (below_over K1.out.2.2.1 bx2).size, (K1.out.1.below bx2).keptBut g2 (by have := HB.out.2.2.2.1; simp; omega), (K1.out.2.1.below bx2).kept g2 (by have := HB.out.2.2.2; omega), p2, fs⟩
    have HL : Hid ((∀ x ∈ l.take 1510, 0 ≤ x ∧ x ≤ 255) ∧ (l.take 1510).length ≤ 1510) := ⟨fun x hx => HI.out.2.2.1 x (List.mem_of_mem_take hx), List.length_take_le _ _⟩
    clear fs bx2 p2 g2 l0 K1
    obtain ⟨q, hq⟩ : ∃ e, fewP p = e := ⟨_, rfl⟩
    obtain ⟨m, hm⟩ : ∃ e, l.take 1510 = e := ⟨_, rfl⟩
    rw [hq, hm] at K
    rw [hm] at HL
    clear hq hm
    go_wp2_with fail
    refine (read_any (.slice ba bn bc) bm Y2 (KB.out.1.below K.out.bel) KB.out.2.1 KB.out.2.2).mono ?_
    rintro _ X3 ⟨t3, rfl, o3, bx3⟩
    obtain ⟨Y3, s3, m3, by3, z3⟩ := FrAt.put X3 (S4.dcF bm) t3 o3.one
    have K3 : Hid (LwP w Y3 V.heap.size w.heap.size W1.heap.size y q f s m ∧ FrAt Y3 X3.heap.size (S4.dcF bm) t3 ∧ S4.Src Y3 t3 (S4.dcR bm)) := ⟨(K.out.below bx3).below by3, m3, (o3.below by3).src⟩
    clear o3 bx3 m3 by3 z3
    go_wp2_with fail
    refine (rread_any (.slice ba bn bc) bm Y3 (KB.out.1.below K3.out.1.bel) KB.out.2.1 KB.out.2.2).mono ?_
    rintro _ X4 ⟨t4, rfl, o4, bx4⟩
    obtain ⟨Y4, s4, m4, by4, z4⟩ := FrAt.put X4 (S4.dcF bm) t4 o4.one
    have b44 : Below Y3.heap.size Y3 Y4 := below_over bx4 by4
    have K4 : Hid (LwP w Y4 V.heap.size w.heap.size W1.heap.size y q f s m ∧ (FrAt Y4 X3.heap.size (S4.dcF bm) t3 ∧ S4.Src Y4 t3 (S4.dcR bm)) ∧ FrAt Y4 X4.heap.size (S4.dcF bm) t4 ∧ S4.Src Y4 t4 (S4.dcR bm)) := ⟨K3.out.1.below b44, ⟨K3.out.2.1.below b44, K3.out.2.2.below b44⟩, m4, (o4.below by4).src⟩
    have l0 := K4.out.1.pr.ld
    have l1 := K4.out.1.fr.ld
    clear o4 bx4 m4 by4 z4 b44 K3
    go_wp2_with fail
    refine (cls_any y q port f s m Y4 K4.out.1.pv K4.out.1.sr HL.out.1 HI.out.2.2.2).mono ?_
    rintro _ X5 ⟨rfl, bx5⟩
    have K5 : Hid (LwP w X5 V.heap.size w.heap.size W1.heap.size y q f s m ∧ (FrAt X5 X3.heap.size (S4.dcF bm) t3 ∧ S4.Src X5 t3 (S4.dcR bm)) ∧ FrAt X5 X4.heap.size (S4.dcF bm) t4 ∧ S4.Src X5 t4 (S4.dcR bm)) := ⟨K4.out.1.below bx5, ⟨K4.out.2.1.1.below bx5, K4.out.2.1.2.below bx5⟩, K4.out.2.2.1.below bx5, K4.out.2.2.2.below bx5⟩
    clear l0 l1 bx5
    have l0 := K5.out.1.pr.ld
    have l1 := K5.out.1.fr.ld
    go_wp2_with fail
    refine (rcls_any y q port f s m X5 K5.out.1.pv K5.out.1.sr HL.out.1 HI.out.2.2.2).mono ?_
    rintro _ X6 ⟨rfl, bx6⟩
    have K6 : Hid (Below w.heap.size w X6 ∧ (FrAt X6 X3.heap.size (S4.dcF bm) t3 ∧ S4.Src X6 t3 (S4.dcR bm)) ∧ FrAt X6 X4.heap.size (S4.dcF bm) t4 ∧ S4.Src X6 t4 (S4.dcR bm)) := ⟨below_over K5.out.1.bel bx6, ⟨K5.out.2.1.1.below bx6, K5.out.2.1.2.below bx6⟩, K5.out.2.2.1.below bx6, K5.out.2.2.2.below bx6⟩
    clear l0 l1 bx6
    obtain ⟨CS, hCS⟩ : ∃ e, clsS q port f m = e := ⟨_, rfl⟩
    obtain ⟨CW, hCW⟩ : ∃ e, clsW q port f m = e := ⟨_, rfl⟩
    obtain ⟨RW, hRW⟩ : ∃ e, whyE (S4.dcE bm) = e := ⟨_, rfl⟩
    rw [hCS, hCW, hRW]
    clear hCS hCW hRW
    have l0 := K6.out.2.1.1.ld
    have l1 := K6.out.2.2.1.ld
    go_wp2_with fail
    refine (Calls.ret_eq (congrArg Value.bool (S4.same_self _ _)) (S4.sameref_any (S4.dcF bm) (S4.dcF bm) t3 t4 (S4.dcR bm) (S4.dcR bm) X6 K6.out.2.1.2 K6.out.2.2.2)).mono ?_
    rintro _ X7 ⟨rfl, bx7⟩
    have K7 : Hid (Below w.heap.size w X7) := below_over K6.out.1 bx7
    clear l0 l1 bx7
    go_wp2_with fail
    refine (group_any isid X7).mono ?_
    rintro _ X8 ⟨rfl, bx8⟩
    have K8 : Hid (Below w.heap.size w X8) := below_over K7.out bx8
    clear bx8
    go_wp2_with fail
    refine (rgroup_any isid X8).mono ?_
    rintro _ X9 ⟨rfl, bx9⟩
    have K9 : Hid (Below w.heap.size w X9) := below_over K8.out bx9
    clear bx9
    go_wp2_with fail
    refine (awake_any X9).mono ?_
    rintro _ X10 ⟨rfl, bx10⟩
    have K10 : Hid (Below w.heap.size w X10) := below_over K9.out bx10
    clear bx10
    go_wp2
    go_ret
    exact ⟨rfl, K10.out⟩
end

section
set_option linter.unusedVariables false
set_option maxRecDepth 4000
open Go.ChangeShapes Go.WideShapes Go.ChangeAt Go.RowKit

theorem laidOut : laidOutB Try.prog = true := by kernel_rfl
theorem own : ownKnob Try.prog.godebug = none := by kernel_rfl
theorem cells_at {W : World} {base : Nat} {a : Addr} {n : Nat} {cs : List Value} (h : W.cells? base a n = some cs) (j : Nat) (x : Value) (hj : cs[j]? = some x) : W.cell? (a.add j) = some x := by
  unfold World.cells? at h
  split at h
  · have hl := mapM_some_length h
    rw [List.length_range] at hl
    have hjn : j < n := by rw [← hl]; exact (List.getElem?_eq_some_iff.1 hj).1
    have := mapM_some_get h j j (by rw [List.getElem?_range hjn])
    rw [this]
    exact hj
  · cases h
theorem open_tr {α : Type} [Inhabited α] {e : El α} (ke : e.Ok) (hK : Try.prog.cellsOf e.ty = e.K) (P : α → Prop) {H : Type} {enc : TypeId × Value → H} {W : World} {v : Value} {fuel : Nat} {r0 : DataW H × List MemPlace}
    (hel0 : ∀ (m : Nat) (cs : List Value) (r : DataW H × List MemPlace), DataW.trod enc Try.prog W 0 (fun _ => true) true m e.ty cs = some r → ∃ u : α, P u ∧ cs = (e.f u).toList)
    (hf : DataW.trod enc Try.prog W 0 (fun _ => true) true fuel e.st [v] = some r0) :
    ∃ (a : Option Addr) (n c : Nat) (l : List α), v = .slice a n c ∧ SlAt e W a n c l ∧ ∀ u ∈ l, P u := by
  rcases Go.Deep.open_slice ke.slc hf with ⟨hcs, _⟩ | ⟨a, len, cap, m, k, D, Pl, hcs, _, hl, hm, hmm, _, hel⟩
  · simp at hcs
    exact ⟨none, 0, 0, [], hcs, SlAt.none' W, by simp⟩
  · simp at hcs
    have hmm' : m = cap := by simpa using hmm
    have key : ∀ i, i < len → ∃ u : α, P u ∧ ∀ j x, (e.f u).toList[j]? = some x → W.cell? ((a.add (i * e.K)).add j) = some x := by
      intro i hi
      obtain ⟨cs', h1, h2⟩ := hel i (by omega)
      rw [hK] at h1
      obtain ⟨u, hu, rfl⟩ := hel0 k cs' _ h2
      exact ⟨u, hu, fun j x hj => cells_at h1 j x hj⟩
    obtain ⟨V, hV⟩ := Go.Deep.choose_lt key
    refine ⟨some a, len, cap, (List.range len).map V, hcs, ⟨by simp, hl, hm, (fun e => by cases e), fun x e' h0 => ?_⟩, fun u hu => ?_⟩
    · cases e'
      have hp := ke.pos
      have hs0 : 0 < (e.f (V 0)).toList.length := by rw [ke.len]; exact hp
      have hc := (hV 0 h0).2 0 _ (List.getElem?_eq_getElem hs0)
      obtain ⟨b, o, sp⟩ := a
      have hsp : sp = none := by simpa [Addr.add] using World.cell?_spot hc
      subst hsp
      refine ⟨b, o, rfl, fun j u hj => ?_⟩
      rw [El.fl_get ke] at hj
      obtain ⟨p, hp', hu⟩ := Option.bind_eq_some_iff.1 hj
      have hjl : j / e.K < len := by
        have := (List.getElem?_eq_some_iff.1 hp').1
        simpa using this
      have hpe : p = V (j / e.K) := by
        rw [List.getElem?_map, List.getElem?_range hjl] at hp'
        simpa using hp'.symm
      subst hpe
      have := (hV (j / e.K) hjl).2 (j % e.K) u hu
      rw [Addr.add_lit, Addr.add_lit] at this
      have hdm := Nat.div_add_mod j e.K
      rw [Nat.mul_comm] at hdm
      rw [show o + j = o + j / e.K * e.K + j % e.K by omega]
      exact this
    · obtain ⟨i, hi, rfl⟩ := List.mem_map.1 hu
      exact (hV i (List.mem_range.1 hi)).1
theorem cellsI : Try.prog.cellsOf 3 = 1 := by kernel_rfl
theorem cellsK : Try.prog.cellsOf 95 = 1 := by kernel_rfl
theorem cellsM : Try.prog.cellsOf 100 = 3 := by kernel_rfl
theorem cellsC : Try.prog.cellsOf 102 = 2 := by kernel_rfl
theorem cellsB : Try.prog.cellsOf 76 = 2 := by kernel_rfl
theorem cellsP : Try.prog.cellsOf 29 = 10 := by kernel_rfl
theorem cellsD : Try.prog.cellsOf 108 = 21 := by kernel_rfl
def kdM3 : List (Option IntKind) := [some .i64, some .i64, some .i64]
def kdC2 : List (Option IntKind) := [some .i64, some .i64]
theorem kindsM3 : kindsOf Try.prog 6 100 = some kdM3 := by kernel_rfl
theorem kindsC2 : kindsOf Try.prog 6 102 = some kdC2 := by kernel_rfl
variable {H : Type} {enc : TypeId × Value → H} {W : World}
theorem open_map {m : Nat} {cs : List Value} {r : DataW H × List MemPlace} (hr : DataW.trod enc Try.prog W 0 (fun _ => true) true m 100 cs = some r) : ∃ u : Mp, True ∧ cs = (eM.f u).toList := by
  have hf := fits_of_trod enc Try.prog W 0 _ 6 m _ kdM3 cs _ kindsM3 hr
  have hl := hf.len
  match cs, hl with
  | [c0, c1, c2], _ =>
    obtain ⟨x0, rfl, _⟩ := hf.at' 0 _ c0 rfl rfl
    obtain ⟨x1, rfl, _⟩ := hf.at' 1 _ c1 rfl rfl
    obtain ⟨x2, rfl, _⟩ := hf.at' 2 _ c2 rfl rfl
    exact ⟨⟨x0, x1, x2⟩, trivial, rfl⟩
theorem open_carry {m : Nat} {cs : List Value} {r : DataW H × List MemPlace} (hr : DataW.trod enc Try.prog W 0 (fun _ => true) true m 102 cs = some r) : ∃ u : Cr, True ∧ cs = (eC.f u).toList := by
  have hf := fits_of_trod enc Try.prog W 0 _ 6 m _ kdC2 cs _ kindsC2 hr
  have hl := hf.len
  match cs, hl with
  | [c0, c1], _ =>
    obtain ⟨x0, rfl, _⟩ := hf.at' 0 _ c0 rfl rfl
    obtain ⟨x1, rfl, _⟩ := hf.at' 1 _ c1 rfl rfl
    exact ⟨⟨x0, x1⟩, trivial, rfl⟩
theorem open_ints' {v : Value} {fuel : Nat} {r0 : DataW H × List MemPlace} (hf : DataW.trod enc Try.prog W 0 (fun _ => true) true fuel 61 [v] = some r0) : ∃ (a : Option Addr) (n c : Nat) (l : List Int), v = .slice a n c ∧ SlAt eI W a n c l := by
  obtain ⟨a, n, c, l, h1, h2, _⟩ := open_tr (e := eI) kI cellsI (fun _ => True) (fun m cs r hr => by
    obtain ⟨x, rfl, _, hw⟩ := DataW.trod_int Try.underlying3 hr
    exact ⟨x, trivial, rfl⟩) hf
  exact ⟨a, n, c, l, h1, h2⟩
theorem open_mem {m : Nat} {cs : List Value} {r : DataW H × List MemPlace} (hr : DataW.trod enc Try.prog W 0 (fun _ => true) true m 76 cs = some r) : ∃ u : Mr, (∃ l, SlAt eI W u.a u.n u.c l) ∧ cs = (eB.f u).toList := by
  obtain ⟨y0, y1, k, _, hl, h0, h1⟩ := trod_struct2 Try.underlying76 hr
  rw [cellsB] at hl
  match cs, hl with
  | [c0, c1], _ =>
    have h0' : DataW.trod enc Try.prog W 0 (fun _ => true) true k 3 [c0] = some y0 := by
      have h : ([c0, c1].drop 0).take (Try.prog.cellsOf 3) = [c0] := by rw [cellsI]; rfl
      rw [← h]
      exact h0
    obtain ⟨x0, e0, _⟩ := DataW.trod_int Try.underlying3 h0'
    have h1' : DataW.trod enc Try.prog W 0 (fun _ => true) true k 61 [c1] = some y1 := by
      have h : ([c0, c1].drop 1).take (Try.prog.cellsOf 61) = [c1] := by rw [show Try.prog.cellsOf 61 = 1 by kernel_rfl]; rfl
      rw [← h]
      exact h1
    obtain ⟨a, n, c, l, rfl, hs⟩ := open_ints' h1'
    simp at e0
    subst e0
    exact ⟨⟨x0, a, n, c⟩, ⟨l, hs⟩, rfl⟩
theorem mem_of {r : List Mr} (h : ∀ u ∈ r, ∃ l, SlAt eI W u.a u.n u.c l) : ∃ l, Mem W r l := by
  induction r with
  | nil => exact ⟨[], Mem.nil _⟩
  | cons x r ih =>
    obtain ⟨l, hl⟩ := ih fun u hu => h u (List.mem_cons_of_mem _ hu)
    obtain ⟨ps, hps⟩ := h x (List.mem_cons_self ..)
    exact ⟨[⟨x.v, ps⟩] ++ l, Mem.app (r := [x]) (Mem.one rfl hps) hl⟩
theorem cells8 : Try.prog.cellsOf 5 = 1 := by kernel_rfl
theorem open_six {fuel : Nat} {c0 c1 c2 c3 c4 c5 : Value} {r : DataW H × List MemPlace} (hf : DataW.trod enc Try.prog W 0 (fun _ => true) true fuel 23 [c0, c1, c2, c3, c4, c5] = some r) :
    ∃ u : O6, c0 = .int .u8 u.a ∧ c1 = .int .u8 u.b ∧ c2 = .int .u8 u.c ∧ c3 = .int .u8 u.d ∧ c4 = .int .u8 u.e ∧ c5 = .int .u8 u.f ∧ u.wf := by
  obtain ⟨xs, m, _, _, _, hl, hg⟩ := DataW.trod_array Try.underlying23 hf
  simp only [cells8] at hg
  have get : ∀ (i : Nat) (cv : Value), i < 6 → (([c0, c1, c2, c3, c4, c5] : List Value).drop (i * 1)).take 1 = [cv] → ∃ n : Int, cv = .int .u8 n ∧ 0 ≤ n ∧ n ≤ 255 := by
    intro i cv hi e
    have := hg i hi
    rw [e] at this
    rw [List.getElem?_eq_getElem (by omega)] at this
    obtain ⟨n, e1, _, wn⟩ := DataW.trod_int Try.underlying5 this
    simp at e1
    exact ⟨n, e1, bounds_u8 wn⟩
  obtain ⟨n0, rfl, g0⟩ := get 0 c0 (by omega) rfl
  obtain ⟨n1, rfl, g1⟩ := get 1 c1 (by omega) rfl
  obtain ⟨n2, rfl, g2⟩ := get 2 c2 (by omega) rfl
  obtain ⟨n3, rfl, g3⟩ := get 3 c3 (by omega) rfl
  obtain ⟨n4, rfl, g4⟩ := get 4 c4 (by omega) rfl
  obtain ⟨n5, rfl, g5⟩ := get 5 c5 (by omega) rfl
  exact ⟨⟨n0, n1, n2, n3, n4, n5⟩, rfl, rfl, rfl, rfl, rfl, rfl, g0, g1, g2, g3, g4, g5⟩
theorem open_n {k : IntKind} {t : TypeId} {fuel : Nat} {c : Value} {r : DataW H × List MemPlace} (hu : Try.prog.underlying t = some (.int k)) (hf : DataW.trod enc Try.prog W 0 (fun _ => true) true fuel t [c] = some r) : ∃ n : Int, c = .int k n := by
  obtain ⟨n, e, _⟩ := DataW.trod_int hu hf
  simp at e
  exact ⟨n, e⟩
theorem open_prov {base : Nat} {v : Value} {dd : DataW H} {pl : List MemPlace} (hv : Value.okWide Try.prog W .any base 29 v) (h : DataW.Trod enc Try.prog W 0 (fun _ => true) true 29 v dd pl) :
    ∃ (x : Pr) (p : Pv), v = .agg x.cs ∧ IsPv W x p := by
  obtain ⟨cs, rfl, hsz, _⟩ : ∃ cs, v = .agg cs ∧ cs.size = Try.prog.cellsOf 29 ∧ Row.okWide Try.prog W .any base 29 cs := by
    simpa [Value.okWide, Try.underlying29] using hv
  rw [cellsP] at hsz
  obtain ⟨l⟩ := cs
  obtain ⟨fuel, hf⟩ := h
  match l, hsz with
  | [c0, c1, c2, c3, c4, c5, c6, c7, c8, c9], _ =>
    obtain ⟨xs, m, _, _, _, hl, hg⟩ := DataW.trod_struct Try.underlying29 hf
    have hl' : xs.length = 5 := hl
    have g0 : DataW.trod enc Try.prog W 0 (fun _ => true) true m 23 (([c0, c1, c2, c3, c4, c5, c6, c7, c8, c9].drop 0).take (Try.prog.cellsOf 23)) = xs[0]? := hg 0 _ rfl
    have g1 : DataW.trod enc Try.prog W 0 (fun _ => true) true m 24 (([c0, c1, c2, c3, c4, c5, c6, c7, c8, c9].drop 6).take (Try.prog.cellsOf 24)) = xs[1]? := hg 1 _ rfl
    have g2 : DataW.trod enc Try.prog W 0 (fun _ => true) true m 25 (([c0, c1, c2, c3, c4, c5, c6, c7, c8, c9].drop 7).take (Try.prog.cellsOf 25)) = xs[2]? := hg 2 _ rfl
    have g3 : DataW.trod enc Try.prog W 0 (fun _ => true) true m 26 (([c0, c1, c2, c3, c4, c5, c6, c7, c8, c9].drop 8).take (Try.prog.cellsOf 26)) = xs[3]? := hg 3 _ rfl
    have g4 : DataW.trod enc Try.prog W 0 (fun _ => true) true m 27 (([c0, c1, c2, c3, c4, c5, c6, c7, c8, c9].drop 9).take (Try.prog.cellsOf 27)) = xs[4]? := hg 4 _ rfl
    rw [List.getElem?_eq_getElem (by omega)] at g0 g1 g2 g3 g4
    rw [show Try.prog.cellsOf 23 = 6 by kernel_rfl] at g0
    rw [show Try.prog.cellsOf 24 = 1 by kernel_rfl] at g1
    rw [show Try.prog.cellsOf 25 = 1 by kernel_rfl] at g2
    rw [show Try.prog.cellsOf 26 = 1 by kernel_rfl] at g3
    rw [show Try.prog.cellsOf 27 = 1 by kernel_rfl] at g4
    have g0 : DataW.trod enc Try.prog W 0 (fun _ => true) true m 23 [c0, c1, c2, c3, c4, c5] = some xs[0] := g0
    have g1 : DataW.trod enc Try.prog W 0 (fun _ => true) true m 24 [c6] = some xs[1] := g1
    have g2 : DataW.trod enc Try.prog W 0 (fun _ => true) true m 25 [c7] = some xs[2] := g2
    have g3 : DataW.trod enc Try.prog W 0 (fun _ => true) true m 26 [c8] = some xs[3] := g3
    have g4 : DataW.trod enc Try.prog W 0 (fun _ => true) true m 27 [c9] = some xs[4] := g4
    obtain ⟨u0, rfl, rfl, rfl, rfl, rfl, rfl, w0⟩ := open_six g0
    obtain ⟨a1, n1, k1, l1, rfl, s1, _⟩ := open_tr (e := eK) kK cellsK (fun _ => True) (fun m cs r hr => by
      obtain ⟨x, rfl, _, hw⟩ := DataW.trod_int Try.underlying95 hr
      exact ⟨x, trivial, rfl⟩) g1
    have : Inhabited Mp := ⟨⟨0, 0, 0⟩⟩
    have : Inhabited Cr := ⟨⟨0, 0⟩⟩
    have : Inhabited Mr := ⟨⟨0, none, 0, 0⟩⟩
    obtain ⟨a2, n2, k2, l2, rfl, s2, _⟩ := open_tr (e := eM) kM cellsM (fun _ => True) (fun m cs r hr => open_map hr) g2
    obtain ⟨a3, n3, k3, l3, rfl, s3, _⟩ := open_tr (e := eC) kC cellsC (fun _ => True) (fun m cs r hr => open_carry hr) g3
    obtain ⟨a4, n4, k4, l4, rfl, s4, p4⟩ := open_tr (e := eB) kB cellsB (fun u => ∃ l, SlAt eI W u.a u.n u.c l) (fun m cs r hr => open_mem hr) g4
    obtain ⟨bs, hb⟩ := mem_of p4
    exact ⟨⟨u0, .slice a1 n1 k1, .slice a2 n2 k2, .slice a3 n3 k3, .slice a4 n4 k4⟩, ⟨u0, l1, l2, l3, bs⟩, rfl, ⟨rfl, w0, s1.slv, s2.slv, s3.slv, l4, s4.slv, hb⟩⟩
end

section
namespace S4
set_option linter.unusedVariables false
set_option maxRecDepth 4000
open Go.ChangeShapes Go.WideShapes Go.ChangeAt Go.RowKit

theorem own : ownKnob Try.prog.godebug = none := by kernel_rfl
theorem laidOut : laidOutB Try.prog = true := by kernel_rfl
theorem cells_MAC : Try.prog.cellsOf 32 = 3 := by kernel_rfl
theorem cells_ITag : Try.prog.cellsOf 47 = 16 := by kernel_rfl
theorem cells_Tag : Try.prog.cellsOf 23 = 6 := by kernel_rfl
theorem cells_int : Try.prog.cellsOf 3 = 1 := by kernel_rfl
theorem cells_bool : Try.prog.cellsOf 4 = 1 := by kernel_rfl
theorem cells_uint8 : Try.prog.cellsOf 5 = 1 := by kernel_rfl

theorem open_tag {H : Type} {enc : TypeId × Value → H} {W : World} {base : Nat} {sp : Nat → Bool} {v : Value} {d : DataW H} {p : List MemPlace}
    (hv : Value.okWide Try.prog W .any base 32 v) (h : DataW.Trod enc Try.prog W 0 sp true 32 v d p) :
    ∃ (a : Int) (b : Bool) (c : Int), v = .agg #[.int .i64 a, .bool b, .int .i64 c] := by
  obtain ⟨cs, rfl, hsz, _⟩ : ∃ cs, v = .agg cs ∧ cs.size = Try.prog.cellsOf 32 ∧ Row.okWide Try.prog W .any base 32 cs := by
    simpa [Value.okWide, Try.underlying32] using hv
  rw [cells_MAC] at hsz
  obtain ⟨l⟩ := cs
  match l, hsz with
  | [c0, c1, c2], _ =>
    obtain ⟨fuel, hf⟩ := h
    obtain ⟨xs, m, _, _, _, hl, hg⟩ := DataW.trod_struct Try.underlying32 hf
    have hl' : xs.length = 3 := hl
    have g0 : DataW.trod enc Try.prog W 0 sp true m 3 ((([c0, c1, c2] : List Value).drop 0).take (Try.prog.cellsOf 3)) = xs[0]? := hg 0 _ rfl
    rw [cells_int, List.getElem?_eq_getElem (by omega)] at g0
    have g1 : DataW.trod enc Try.prog W 0 sp true m 4 ((([c0, c1, c2] : List Value).drop 1).take (Try.prog.cellsOf 4)) = xs[1]? := hg 1 _ rfl
    rw [cells_bool, List.getElem?_eq_getElem (by omega)] at g1
    have g2 : DataW.trod enc Try.prog W 0 sp true m 3 ((([c0, c1, c2] : List Value).drop 2).take (Try.prog.cellsOf 3)) = xs[2]? := hg 2 _ rfl
    rw [cells_int, List.getElem?_eq_getElem (by omega)] at g2
    obtain ⟨n0, e0, _, _⟩ := DataW.trod_int Try.underlying3 g0
    obtain ⟨n1, e1, _⟩ := DataW.trod_bool Try.underlying4 g1
    obtain ⟨n2, e2, _, _⟩ := DataW.trod_int Try.underlying3 g2
    simp at e0 e1 e2
    subst e0 e1 e2
    exact ⟨n0, n1, n2, rfl⟩

theorem open_six {H : Type} {enc : TypeId × Value → H} {W : World} {b : Nat} {sp : Nat → Bool} {m : Nat} {x : DataW H × List MemPlace} {c0 c1 c2 c3 c4 c5 : Value}
    (hf : DataW.trod enc Try.prog W b sp true m 23 [c0, c1, c2, c3, c4, c5] = some x) :
    ∃ a0 a1 a2 a3 a4 a5 : Int, c0 = .int .u8 a0 ∧ c1 = .int .u8 a1 ∧ c2 = .int .u8 a2 ∧ c3 = .int .u8 a3 ∧ c4 = .int .u8 a4 ∧ c5 = .int .u8 a5 := by
  obtain ⟨xs, m, _, _, _, hl, hg⟩ := DataW.trod_array Try.underlying23 hf
  simp only [cells_uint8] at hg
  have get : ∀ (i : Nat) (cv : Value), i < 6 → (([c0, c1, c2, c3, c4, c5] : List Value).drop (i * 1)).take 1 = [cv] → ∃ n : Int, cv = .int .u8 n := by
    intro i cv hi e
    have := hg i hi
    rw [e] at this
    rw [List.getElem?_eq_getElem (by omega)] at this
    obtain ⟨n, e1, _, wn⟩ := DataW.trod_int Try.underlying5 this
    simp at e1
    exact ⟨n, e1⟩
  obtain ⟨n0, h0⟩ := get 0 c0 (by omega) rfl
  obtain ⟨n1, h1⟩ := get 1 c1 (by omega) rfl
  obtain ⟨n2, h2⟩ := get 2 c2 (by omega) rfl
  obtain ⟨n3, h3⟩ := get 3 c3 (by omega) rfl
  obtain ⟨n4, h4⟩ := get 4 c4 (by omega) rfl
  obtain ⟨n5, h5⟩ := get 5 c5 (by omega) rfl
  exact ⟨n0, n1, n2, n3, n4, n5, h0, h1, h2, h3, h4, h5⟩

theorem list16 {l : List Value} (h : l.length = 16) : ∃ c0 c1 c2 c3 c4 c5 c6 c7 c8 c9 c10 c11 c12 c13 c14 c15, l = [c0, c1, c2, c3, c4, c5, c6, c7, c8, c9, c10, c11, c12, c13, c14, c15] := by
  match l, h with
  | [c0, c1, c2, c3, c4, c5, c6, c7, c8, c9, c10, c11, c12, c13, c14, c15], _ => exact ⟨c0, c1, c2, c3, c4, c5, c6, c7, c8, c9, c10, c11, c12, c13, c14, c15, rfl⟩

theorem open_itag {H : Type} {enc : TypeId × Value → H} {W : World} {base : Nat} {sp : Nat → Bool} {v : Value} {dd : DataW H} {pl : List MemPlace}
    (hv : Value.okWide Try.prog W .any base 47 v) (h : DataW.Trod enc Try.prog W 0 sp true 47 v dd pl) :
    ∃ (p : Int) (d u : Bool) (i a0 a1 a2 a3 a4 a5 s0 s1 s2 s3 s4 s5 : Int), v = .agg #[.int .i64 p, .bool d, .bool u, .int .i64 i, .int .u8 a0, .int .u8 a1, .int .u8 a2, .int .u8 a3, .int .u8 a4, .int .u8 a5, .int .u8 s0, .int .u8 s1, .int .u8 s2, .int .u8 s3, .int .u8 s4, .int .u8 s5] := by
  obtain ⟨cs, rfl, hsz, _⟩ : ∃ cs, v = .agg cs ∧ cs.size = Try.prog.cellsOf 47 ∧ Row.okWide Try.prog W .any base 47 cs := by
    simpa [Value.okWide, Try.underlying47] using hv
  rw [cells_ITag] at hsz
  obtain ⟨l⟩ := cs
  obtain ⟨c0, c1, c2, c3, c4, c5, c6, c7, c8, c9, c10, c11, c12, c13, c14, c15, rfl⟩ := list16 (show l.length = 16 from hsz)
  obtain ⟨fuel, hf⟩ := h
  obtain ⟨xs, m, _, _, _, hl, hg⟩ := DataW.trod_struct Try.underlying47 hf
  have hl' : xs.length = 6 := hl
  have g0 : DataW.trod enc Try.prog W 0 sp true m 3 ((([c0, c1, c2, c3, c4, c5, c6, c7, c8, c9, c10, c11, c12, c13, c14, c15] : List Value).drop 0).take (Try.prog.cellsOf 3)) = xs[0]? := hg 0 _ rfl
  rw [cells_int, List.getElem?_eq_getElem (by omega)] at g0
  have g1 : DataW.trod enc Try.prog W 0 sp true m 4 ((([c0, c1, c2, c3, c4, c5, c6, c7, c8, c9, c10, c11, c12, c13, c14, c15] : List Value).drop 1).take (Try.prog.cellsOf 4)) = xs[1]? := hg 1 _ rfl
  rw [cells_bool, List.getElem?_eq_getElem (by omega)] at g1
  have g2 : DataW.trod enc Try.prog W 0 sp true m 4 ((([c0, c1, c2, c3, c4, c5, c6, c7, c8, c9, c10, c11, c12, c13, c14, c15] : List Value).drop 2).take (Try.prog.cellsOf 4)) = xs[2]? := hg 2 _ rfl
  rw [cells_bool, List.getElem?_eq_getElem (by omega)] at g2
  have g3 : DataW.trod enc Try.prog W 0 sp true m 3 ((([c0, c1, c2, c3, c4, c5, c6, c7, c8, c9, c10, c11, c12, c13, c14, c15] : List Value).drop 3).take (Try.prog.cellsOf 3)) = xs[3]? := hg 3 _ rfl
  rw [cells_int, List.getElem?_eq_getElem (by omega)] at g3
  have g4 : DataW.trod enc Try.prog W 0 sp true m 23 ((([c0, c1, c2, c3, c4, c5, c6, c7, c8, c9, c10, c11, c12, c13, c14, c15] : List Value).drop 4).take (Try.prog.cellsOf 23)) = xs[4]? := hg 4 _ rfl
  rw [cells_Tag, List.getElem?_eq_getElem (by omega)] at g4
  have g5 : DataW.trod enc Try.prog W 0 sp true m 23 ((([c0, c1, c2, c3, c4, c5, c6, c7, c8, c9, c10, c11, c12, c13, c14, c15] : List Value).drop 10).take (Try.prog.cellsOf 23)) = xs[5]? := hg 5 _ rfl
  rw [cells_Tag, List.getElem?_eq_getElem (by omega)] at g5
  obtain ⟨n0, e0, _, _⟩ := DataW.trod_int Try.underlying3 g0
  obtain ⟨n1, e1, _⟩ := DataW.trod_bool Try.underlying4 g1
  obtain ⟨n2, e2, _⟩ := DataW.trod_bool Try.underlying4 g2
  obtain ⟨n3, e3, _, _⟩ := DataW.trod_int Try.underlying3 g3
  have f4 : DataW.trod enc Try.prog W 0 sp true m 23 [c4, c5, c6, c7, c8, c9] = some _ := g4
  have f5 : DataW.trod enc Try.prog W 0 sp true m 23 [c10, c11, c12, c13, c14, c15] = some _ := g5
  obtain ⟨a0, a1, a2, a3, a4, a5, rfl, rfl, rfl, rfl, rfl, rfl⟩ := open_six f4
  obtain ⟨s0, s1, s2, s3, s4, s5, rfl, rfl, rfl, rfl, rfl, rfl⟩ := open_six f5
  simp at e0 e1 e2 e3
  subst e0 e1 e2 e3
  exact ⟨n0, n1, n2, n3, a0, a1, a2, a3, a4, a5, s0, s1, s2, s3, s4, s5, rfl⟩

theorem open_bytes {H : Type} {enc : TypeId × Value → H} {W : World} {base : Nat} {d : DataW H} {p : List MemPlace} {v : Value}
    (hv : Value.okWide Try.prog W .any base 30 v) (h : DataW.Trod enc Try.prog W 0 (fun _ => true) true 30 v d p) :
    ∃ (a : Option Addr) (n c : Nat) (l : List Int), v = .slice a n c ∧ Src W (.slice a n c) l ∧ ∀ x ∈ l, 0 ≤ x ∧ x ≤ 255 := by
  obtain ⟨a0, n0, c0, rfl⟩ := okWide_slice Try.underlying30 hv
  obtain ⟨fuel, hf⟩ := h
  rcases open_ints Try.underlying30 Try.underlying5 (by kernel_rfl) hf with ⟨hcs, _⟩ | ⟨x, l, c, zs, hcs, _, hl, hm, hz, _, hcell, hwz⟩
  · simp [Value.cells] at hcs
    obtain ⟨rfl, rfl, rfl⟩ := hcs
    exact ⟨none, 0, 0, [], rfl, ⟨none, 0, rfl, Nat.le_refl _, by simp, (fun _ => ⟨rfl, rfl⟩), (fun ad e => by cases e)⟩, by simp⟩
  · simp [Value.cells] at hcs
    obtain ⟨rfl, rfl, rfl⟩ := hcs
    have hz' : zs.length = c0 := by simpa using hz
    have ht : (zs.take n0).length = n0 := by simp; omega
    refine ⟨some x, n0, c0, zs.take n0, rfl, ⟨some x, c0, by rw [ht], by rw [ht]; exact hl, hm, (fun e => by cases e), (fun ad e j hj => ?_)⟩, ?_⟩
    · cases e
      rw [ht] at hj
      rw [hcell j (by omega)]
      simp [List.getD, List.getElem?_take_of_lt hj]
    · intro y hy
      exact bounds_u8 (hwz y (List.mem_of_mem_take hy))
end S4
end

end Go.Proofs.Ytgjagedngdhdaaa
