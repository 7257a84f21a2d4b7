/-
  Frames to bridges, to groups, to all and to one station go alike: the walk of the law, for every input.
-/
import Derived.Test.YtgjagedngdhdaaaJ46Mde
import Derived.Test.YtgjagedngdhdaaaJ32Awa
import Derived.Test.YtgjagedngdhdaaaJ49Pla
import Derived.Test.YtgjagedngdhdaaaJ36XBSames
namespace Go.Proofs.Ytgjagedngdhdaaa
set_option linter.unusedVariables false
set_option maxRecDepth 4000
set_option linter.unusedSimpArgs false
open Go.RowKit
attribute [local go_sem ↓] ldP stP ldMc stMc ldFr stFr ldBf stBf slU S4.eqM_eq
attribute [local go_sem] gdM_mac eqM_self
attribute [local go_sem ↓] stIn
theorem FrAt.stD {W : World} {b : Nat} {f : S4.Fr} {z : Value} (h : FrAt W b f z) (m : S4.M6) : ∃ V, (stS 23 (.pointer (some ⟨b, 0, none⟩)) (.agg (mc m))).run Try.prog W = .ok () V ∧ FrAt V b (toF f m) z ∧ W.grownBy V (some b) :=
  ⟨_, S4.store_cells (ty := 23) (o := 0) h S4.info_MAC (by rw [S4.fcs_size]; show 0 + 6 ≤ 17; omega) (mc_one m), RvAt.set (ds := S4.fcs (toF f m) z) h, grown_row _ _ _⟩
def dB (f : S4.Bf) (m : S4.M6) : S4.Bf := ⟨m, f.s, f.p, f.e, f.v, f.q, f.g, f.u, f.i, f.x, f.y⟩
def xB (f : S4.Bf) (m : S4.M6) : S4.Bf := ⟨f.d, f.s, f.p, f.e, f.v, f.q, f.g, f.u, f.i, m, f.y⟩
theorem BfAt.stD {W : World} {b : Nat} {f : S4.Bf} {z : Value} (h : BfAt W b f z) (m : S4.M6) : ∃ V, (stS 23 (.pointer (some ⟨b, 0, none⟩)) (.agg (mc m))).run Try.prog W = .ok () V ∧ BfAt V b (dB f m) z ∧ W.grownBy V (some b) :=
  ⟨_, S4.store_cells (ty := 23) (o := 0) h S4.info_MAC (by rw [S4.bcs_size]; show 0 + 6 ≤ 32; omega) (mc_one m), RvAt.set (ds := S4.bcs (dB f m) z) h, grown_row _ _ _⟩
theorem BfAt.stX {W : World} {b : Nat} {f : S4.Bf} {z : Value} (h : BfAt W b f z) (m : S4.M6) : ∃ V, (stS 23 (.pointer (some ⟨b, 19, none⟩)) (.agg (mc m))).run Try.prog W = .ok () V ∧ BfAt V b (xB f m) z ∧ W.grownBy V (some b) :=
  ⟨_, S4.store_cells (ty := 23) (o := 19) h S4.info_MAC (by rw [S4.bcs_size]; show 19 + 6 ≤ 32; omega) (mc_one m), RvAt.set (ds := S4.bcs (xB f m) z) h, grown_row _ _ _⟩
theorem BfAt.dm {W : World} {b : Nat} {f : S4.Bf} {z : Value} (h : BfAt W b f z) : (ldS 23 (.pointer (some ⟨b, 0, none⟩))).run Try.prog W = .ok (.agg (mc f.d)) W := S4.BfAt.ldd h
theorem BfAt.xm {W : World} {b : Nat} {f : S4.Bf} {z : Value} (h : BfAt W b f z) : (ldS 23 (.pointer (some ⟨b, 19, none⟩))).run Try.prog W = .ok (.agg (mc f.x)) W := S4.BfAt.ldx h
/-- The law's variables. -/
structure AlS (w W : World) (bp bf bg bk : Nat) (xp : Pr) (P : Pv) (f g : S4.Fr) (s : Value) (l : List Int) (known : S4.M6) : Prop where
  bel : Below w.heap.size w W
  pp : PrAt W bp xp
  ip : IsPv W xp P
  fr : FrAt W bf f s
  gr : FrAt W bg g s
  sr : S4.Src W s l
  kn : McAt W bk known
theorem AlS.below {w W W' : World} {bp bf bg bk : Nat} {xp : Pr} {P : Pv} {f g : S4.Fr} {s : Value} {l : List Int} {known : S4.M6} (h : AlS w W bp bf bg bk xp P f g s l known) (hb : Below W.heap.size W W') : AlS w W' bp bf bg bk xp P f g s l known :=
  ⟨below_over h.bel hb, h.pp.below hb, h.ip.below hb, h.fr.below hb, h.gr.below hb, h.sr.below hb, h.kn.below hb⟩
set_option maxHeartbeats 16000000 in
theorem all_law (bits : Int) (la : Option Addr) (ln lc : Nat) (lr : List Cm) (ll : List Cd) (port : Int) (f : S4.Fr) (z : Value) (l : List Int) (to known : S4.M6) (w : World) (hbits : 0 ≤ bits ∧ bits ≤ 255) (h1 : Cms w la ln lc lr ll) (hs : S4.Src w z l) (hb : ∀ x ∈ l, 0 ≤ x ∧ x ≤ 255) (hf : f.ok) (ht : to.ok) (hk : known.ok) :
    Calls Try.prog 7 #[.int .u8 bits, .slice la ln lc, .int .i64 port, .agg (S4.fcs f z), .agg (mc to), .agg (mc known)] w fun r w' => r = .returned (.bool true) ∧ Below w.heap.size w w' := by
  obtain ⟨W1, hW1, r1, b1, z1⟩ := FrAt.new w f z
  obtain ⟨W2, hW2, r2, b2, z2⟩ := McAt.new W1 to
  obtain ⟨V, hV, r3, b3, z3⟩ := McAt.new W2 known
  have B0 : Below w.heap.size w V := below_over b1 (below_over b2 b3)
  have HB : Hid (Below w.heap.size w V ∧ FrAt V w.heap.size f z ∧ McAt V W1.heap.size to ∧ McAt V W2.heap.size known ∧ W1.heap.size = w.heap.size + 1 ∧ W2.heap.size = w.heap.size + 2 ∧ V.heap.size = w.heap.size + 3) := ⟨B0, r1.below (below_over b2 b3), r2.below b3, r3, z1, by omega, by omega⟩
  have HI : Hid (S4.Src w z l ∧ (∀ x ∈ l, 0 ≤ x ∧ x ≤ 255) ∧ f.ok ∧ to.ok ∧ known.ok ∧ 0 ≤ bits ∧ bits ≤ 255) := ⟨hs, hb, hf, ht, hk, hbits⟩
  have HC : Hid (Cms V la ln lc lr ll) := h1.below B0
  clear B0 h1 hs hb hf ht hk hbits r1 r2 r3 b1 b2 b3 z1 z2 z3
  go_enter Try.func7, Try.ntmps7
  go_wp2_with fail
  refine (made_any bits 7 la ln lc lr ll V HI.out.2.2.2.2.2 (by decide) HC.out).mono ?_
  rintro _ X1 ⟨⟨xp, rfl, p1⟩, b1⟩
  obtain ⟨P, hP⟩ : ∃ e, madeP bits (prtN 7) ll = e := ⟨_, rfl⟩
  have CP : Hid (chk P = true) := by rw [← hP]; exact made_chk bits 7 ll
  rw [hP] at p1
  obtain ⟨Y1, s1, m1, c1⟩ := PrAt.put X1 xp p1.one
  have K1 : Hid (PrAt Y1 X1.heap.size xp ∧ IsPv Y1 xp P ∧ Below V.heap.size V Y1 ∧ V.heap.size ≤ X1.heap.size) := ⟨m1, p1.below c1, below_over b1 c1, b1.size⟩
  clear p1 b1 m1 c1 hP
  have l0 := (HB.out.2.1.below K1.out.2.2.1).ld
  go_wp2_with fail
  refine (fewf_any f z l w Y1 HI.out.1 (below_over HB.out.1 K1.out.2.2.1)).mono ?_
  rintro _ X3 ⟨⟨s, rfl, fs, fa, fn, fc, fa', fn', fc', ez, es, e8⟩, b3⟩
  subst ez es
  obtain ⟨Y3, s3, m3, g3⟩ := ((HB.out.2.1.below K1.out.2.2.1).below b3).st f (.slice fa' fn' fc') rfl
  have bb : Below w.heap.size w Y3 := gro (below_over (below_over HB.out.1 K1.out.2.2.1) b3) g3 (Nat.le_refl _) (below_over (below_over HB.out.1 K1.out.2.2.1) b3).size
  have fz := (HB.out.2.1.below K1.out.2.2.1).below b3
  have sw := fr_swap fz m3 g3
  have K2 : Hid (Below w.heap.size w Y3 ∧ PrAt Y3 X1.heap.size xp ∧ IsPv Y3 xp P ∧ FrAt Y3 w.heap.size f (.slice fa' fn' fc') ∧ McAt Y3 W1.heap.size to ∧ McAt Y3 W2.heap.size known ∧ S4.Src Y3 (.slice fa' fn' fc') (l.take 1510)) := by
    have hx := K1.out.2.2.2
    have hv := HB.out.2.2.2.2
    exact ⟨bb, (K1.out.1.below b3).keptBut g3 (by simp; omega), few_swap sw e8 (K1.out.2.1.below b3) CP.out, m3, RvAt.keptBut ((HB.out.2.2.1.below K1.out.2.2.1).below b3) g3 (by simp; omega), RvAt.keptBut ((HB.out.2.2.2.1.below K1.out.2.2.1).below b3) g3 (by simp; omega), fs.below bb⟩
  have HL : Hid ((∀ x ∈ l.take 1510, 0 ≤ x ∧ x ≤ 255) ∧ (l.take 1510).length ≤ 1510) := ⟨fun x hx => HI.out.2.1 x (List.mem_of_mem_take hx), List.length_take_le _ _⟩
  obtain ⟨m, hm⟩ : ∃ e, l.take 1510 = e := ⟨_, rfl⟩
  obtain ⟨s, hsv⟩ : ∃ e, Value.slice fa' fn' fc' = e := ⟨_, rfl⟩
  rw [hm, hsv] at K2
  rw [hm] at HL
  rw [hsv] at s3 ⊢
  clear fs e8 b3 m3 g3 l0 hm hsv K1 bb fz sw
  have l0 := K2.out.2.2.2.1.ld
  obtain ⟨Y4, s4, m4, by4, z4⟩ := FrAt.put Y3 f s (S4.src_one K2.out.2.2.2.2.2.2)
  have l1 := (K2.out.2.2.2.2.1.below by4).ld
  obtain ⟨Y, s5, m5, g5⟩ := m4.stD to
  have b5 : Below Y3.heap.size Y3 Y := gro by4 g5 (Nat.le_refl _) by4.size
  have K : Hid (AlS w Y X1.heap.size w.heap.size Y3.heap.size W2.heap.size xp P f (toF f to) s m known) := ⟨below_over K2.out.1 b5, K2.out.2.1.below b5, K2.out.2.2.1.below b5, K2.out.2.2.2.1.below b5, m5, K2.out.2.2.2.2.2.2.below b5, K2.out.2.2.2.2.2.1.below b5⟩
  have HG : Hid ((toF f to).ok) := toF_ok HI.out.2.2.1 HI.out.2.2.2.1
  have EX : Hid (S4.chkF f m = 0 → S4.chkF (toF f to) m = 0 → encW P port (toF f to) m known true = encW P port f m known true ∧ encR P port (toF f to) m known true = encR P port f m known true ∧ xB (dB (encB P port f m known true) (encB P port (toF f to) m known true).d) (encB P port (toF f to) m known true).x = encB P port (toF f to) m known true) := fun h k => en_to CP.out h k
  have EL : Hid (S4.chkF f m = 0 → S4.chkF (toF f to) m = 0 → loW P port (toF f to) m = loW P port f m ∧ (loL P port (toF f to) m).length = (loL P port f m).length) := fun h k => lo_to CP.out h k
  obtain ⟨g, hg⟩ : ∃ e, toF f to = e := ⟨_, rfl⟩
  rw [hg] at K HG EX EL
  clear m4 by4 z4 m5 g5 b5 K2 hg
  obtain ⟨E1, hE1⟩ : ∃ e, S4.chkF f m = e := ⟨_, rfl⟩
  obtain ⟨E2, hE2⟩ : ∃ e, S4.chkF g m = e := ⟨_, rfl⟩
  have EE : Hid (S4.chkF f m = E1 ∧ S4.chkF g m = E2) := ⟨hE1, hE2⟩
  have C1 : Hid (Calls Try.prog 30 #[.agg (S4.fcs f s)] Y fun r w' => r = .returned (.int .i64 E1) ∧ Below Y.heap.size Y w') := by rw [← hE1]; exact S4.checkref_any f s m Y K.out.sr HL.out.1 HI.out.2.2.1
  clear hE1 hE2
  have l2 := K.out.fr.ld
  go_wp2_with fail
  refine C1.out.mono ?_
  rintro _ X3 ⟨rfl, bx3⟩
  clear l1 l2
  have K3 : Hid (AlS w X3 X1.heap.size w.heap.size Y3.heap.size W2.heap.size xp P f g s m known) := K.out.below bx3
  clear l0 bx3 C1 K
  by_cases h1 : E1 = 0
  · subst h1
    have C2 : Hid (Calls Try.prog 30 #[.agg (S4.fcs g s)] X3 fun r w' => r = .returned (.int .i64 E2) ∧ Below X3.heap.size X3 w') := by rw [← EE.out.2]; exact S4.checkref_any g s m X3 K3.out.sr HL.out.1 HG.out
    have l0 := K3.out.gr.ld
    go_wp2_with fail
    refine C2.out.mono ?_
    rintro _ X4 ⟨rfl, bx4⟩
    have K4 : Hid (AlS w X4 X1.heap.size w.heap.size Y3.heap.size W2.heap.size xp P f g s m known) := K3.out.below bx4
    clear l0 bx4 C2 K3
    by_cases h2 : E2 = 0
    · subst h2
      have l0 := K4.out.pp.ld
      have l1 := K4.out.fr.ld
      have l2 := K4.out.kn.ld
      go_wp2_with fail
      refine (enc_any xp P port f s m known true X4 K4.out.ip K4.out.sr HL.out.1 HI.out.2.2.1 HI.out.2.2.2.2.1 (by have := HL.out.2; omega)).mono ?_
      rintro _ X5 ⟨t5, rfl, o5, bx5⟩
      obtain ⟨EB, hEB⟩ : ∃ e, encB P port f m known true = e := ⟨_, rfl⟩
      obtain ⟨EW, hEW⟩ : ∃ e, encW P port f m known true = e := ⟨_, rfl⟩
      obtain ⟨ER, hER⟩ : ∃ e, encR P port f m known true = e := ⟨_, rfl⟩
      have EY := EX.out EE.out.1 EE.out.2
      rw [hEB, hEW, hER] at EY
      rw [hEB, hEW]
      rw [hER] at o5
      obtain ⟨Y5, s5', m5, by5, z5⟩ := BfAt.put X5 EB t5 o5.one
      have K5 : Hid (AlS w Y5 X1.heap.size w.heap.size Y3.heap.size W2.heap.size xp P f g s m known ∧ BfAt Y5 X5.heap.size EB t5 ∧ S4.Own Y5 X4.heap.size t5 ER ∧ Below X4.heap.size X4 Y5 ∧ X4.heap.size ≤ X5.heap.size) := ⟨(K4.out.below bx5).below by5, m5, o5.below by5, below_over bx5 by5, bx5.size⟩
      have EZ : Hid (encW P port g m known true = EW ∧ encR P port g m known true = ER ∧ xB (dB EB (encB P port g m known true).d) (encB P port g m known true).x = encB P port g m known true) := EY
      clear o5 bx5 m5 by5 z5 hEB hEW hER l0 l1 l2 EY EX
      have l0 := K5.out.1.pp.ld
      have l1 := K5.out.1.gr.ld
      have l2 := K5.out.1.kn.ld
      go_wp2_with fail
      refine (enc_any xp P port g s m known true Y5 K5.out.1.ip K5.out.1.sr HL.out.1 HG.out HI.out.2.2.2.2.1 (by have := HL.out.2; omega)).mono ?_
      rintro _ X6 ⟨t6, rfl, o6, bx6⟩
      rw [EZ.out.1]
      rw [EZ.out.2.1] at o6
      obtain ⟨GB, hGB⟩ : ∃ e, encB P port g m known true = e := ⟨_, rfl⟩
      have EV : Hid (xB (dB EB GB.d) GB.x = GB) := by have := EZ.out.2.2; rw [hGB] at this; exact this
      rw [hGB]
      obtain ⟨Y6, s6, m6, by6, z6⟩ := BfAt.put X6 GB t6 o6.one
      have b66 : Below Y5.heap.size Y5 Y6 := below_over bx6 by6
      have K6 : Hid (AlS w Y6 X1.heap.size w.heap.size Y3.heap.size W2.heap.size xp P f g s m known ∧ BfAt Y6 X5.heap.size EB t5 ∧ S4.Own Y6 X4.heap.size t5 ER ∧ BfAt Y6 X6.heap.size GB t6 ∧ S4.Own Y6 Y5.heap.size t6 ER ∧ X5.heap.size < X6.heap.size ∧ Below X4.heap.size X4 Y6 ∧ X4.heap.size ≤ X5.heap.size) := ⟨K5.out.1.below b66, K5.out.2.1.below b66, K5.out.2.2.1.below b66, m6, o6.below by6, by have := K5.out.2.1.lt; have := bx6.size; omega, below_over K5.out.2.2.2.1 b66, K5.out.2.2.2.2⟩
      have EWW : (EW != EW) = false := by simp
      clear o6 bx6 m6 by6 z6 hGB l0 l1 l2 b66 EZ
      have d0 := K6.out.2.2.2.1.dm
      have d1 := K6.out.2.2.2.1.xm
      obtain ⟨Y7, s7, m7, g7⟩ := K6.out.2.1.stD GB.d
      have e7 := (K6.out.2.2.2.1.keptBut g7 (by have := K6.out.2.2.2.2.2.1; simp; omega)).xm
      obtain ⟨Y8, s8, m8, g8⟩ := m7.stX GB.x
      rw [EV.out] at m8
      have b8 : Below X4.heap.size X4 Y8 := gro (gro K6.out.2.2.2.2.2.2.1 g7 K6.out.2.2.2.2.2.2.2 K6.out.2.2.2.2.2.2.1.size) g8 K6.out.2.2.2.2.2.2.2 (Nat.le_trans K6.out.2.2.2.2.2.2.1.size g7.size)
      have n7 := RvAt.noBy (g := X5.heap.size) K6.out.2.1 (by decide)
      have n8 := RvAt.noBy (g := X5.heap.size) m7 (by decide)
      have K8 : Hid (AlS w Y8 X1.heap.size w.heap.size Y3.heap.size W2.heap.size xp P f g s m known ∧ BfAt Y8 X5.heap.size GB t5 ∧ S4.Src Y8 t5 ER ∧ BfAt Y8 X6.heap.size GB t6 ∧ S4.Src Y8 t6 ER) := by
        have hx := K6.out.2.2.2.2.2.1
        exact ⟨K4.out.below b8, m8, (own_apart (own_apart K6.out.2.2.1 g7 n7) g8 n8).src, (K6.out.2.2.2.1.keptBut g7 (by simp; omega)).keptBut g8 (by simp; omega), (own_apart (own_apart K6.out.2.2.2.2.1 g7 n7) g8 n8).src⟩
      clear n7 n8 b8 m7 g7 m8 g8
      have l0 := K8.out.1.pp.ld
      have l1 := K8.out.1.fr.ld
      go_wp2_with fail
      clear d0 d1 e7
      refine (local_any xp P port f s m Y8 K8.out.1.ip (okp_chk CP.out) K8.out.1.sr HL.out.1 HI.out.2.2.1).mono ?_
      rintro _ X9 ⟨⟨v9, rfl, c9⟩, bx9⟩
      obtain ⟨a9, n9, e9, r9, rfl, t9⟩ := c9.at
      have hn9 := t9.sl.int
      have EM := EL.out EE.out.1 EE.out.2
      rw [t9.len] at EM
      obtain ⟨LW, hLW⟩ : ∃ e, loW P port f m = e := ⟨_, rfl⟩
      rw [hLW] at EM
      rw [hLW]
      have EN : Hid (loW P port g m = LW ∧ (loL P port g m).length = n9) := EM
      have K9 : Hid (AlS w X9 X1.heap.size w.heap.size Y3.heap.size W2.heap.size xp P f g s m known ∧ BfAt X9 X5.heap.size GB t5 ∧ S4.Src X9 t5 ER ∧ BfAt X9 X6.heap.size GB t6 ∧ S4.Src X9 t6 ER) := ⟨K8.out.1.below bx9, K8.out.2.1.below bx9, K8.out.2.2.1.below bx9, K8.out.2.2.2.1.below bx9, K8.out.2.2.2.2.below bx9⟩
      clear c9 t9 bx9 EM hLW l0 l1 K8
      have l0 := K9.out.1.pp.ld
      have l1 := K9.out.1.gr.ld
      go_wp2_with fail
      refine (local_any xp P port g s m X9 K9.out.1.ip (okp_chk CP.out) K9.out.1.sr HL.out.1 HG.out).mono ?_
      rintro _ X10 ⟨⟨v10, rfl, c10⟩, bx10⟩
      obtain ⟨a10, n10, e10, r10, rfl, t10⟩ := c10.at
      obtain rfl : n10 = n9 := by rw [← t10.len, EN.out.2]
      rw [EN.out.1]
      have K10 : Hid (AlS w X10 X1.heap.size w.heap.size Y3.heap.size W2.heap.size xp P f g s m known ∧ BfAt X10 X5.heap.size GB t5 ∧ S4.Src X10 t5 ER ∧ BfAt X10 X6.heap.size GB t6 ∧ S4.Src X10 t6 ER) := ⟨K9.out.1.below bx10, K9.out.2.1.below bx10, K9.out.2.2.1.below bx10, K9.out.2.2.2.1.below bx10, K9.out.2.2.2.2.below bx10⟩
      clear c10 t10 bx10 l0 l1 K9
      have l0 := K10.out.2.1.ld
      have l1 := K10.out.2.2.2.1.ld
      go_wp2_with fail
      refine (Calls.ret_eq (congrArg Value.bool (S4.sameBb_self _ _)) (S4.bsameref_any GB GB t5 t6 ER ER X10 K10.out.2.2.1 K10.out.2.2.2.2)).mono ?_
      rintro _ X11 ⟨rfl, bx11⟩
      have K11 : Hid (Below w.heap.size w X11) := below_over K10.out.1.bel bx11
      clear l0 l1 bx11
      go_wp2_with fail
      refine (awake_any X11).mono ?_
      rintro _ X12 ⟨rfl, bx12⟩
      have K12 : Hid (Below w.heap.size w X12) := below_over K11.out bx12
      clear bx12
      go_wp2
      go_ret
      exact ⟨rfl, K12.out⟩
    · have e0 : (E2 != 0) = true := by simp [h2]
      have KB : Hid (Below w.heap.size w X4) := K4.out.bel
      clear h2
      go_wp2_with fail
      refine (awake_any X4).mono ?_
      rintro _ X10 ⟨rfl, bx10⟩
      have K10 : Hid (Below w.heap.size w X10) := below_over KB.out bx10
      clear bx10
      go_wp2
      go_ret
      exact ⟨rfl, K10.out⟩
  · have e0 : (E1 != 0) = true := by simp [h1]
    have KB : Hid (Below w.heap.size w X3) := K3.out.bel
    clear h1
    go_wp2_with fail
    refine (awake_any X3).mono ?_
    rintro _ X10 ⟨rfl, bx10⟩
    have K10 : Hid (Below w.heap.size w X10) := below_over KB.out bx10
    clear bx10
    go_wp2
    go_ret
    exact ⟨rfl, K10.out⟩
end Go.Proofs.Ytgjagedngdhdaaa
