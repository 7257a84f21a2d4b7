/-
  The walks of which frames of the backbone are the same, and by definition: for all. How frames go into the backbone: the walk of the law, for every input.
-/
import Derived.Test.YtgjagedngdhdaaaJ16XBFrame
import Derived.Test.YtgjagedngdhdaaaJ33LRd
namespace Go.Proofs.Ytgjagedngdhdaaa

section
namespace S4
set_option linter.unusedVariables false
set_option maxRecDepth 4000
set_option linter.unusedSimpArgs false
open Go.RowKit

/-- Services' tags held against each other. -/
def eqI (x y : Value) : Sem Value := binOp .eql 47 x y
theorem eqI_eq (x y : Value) : binOp .eql 47 x y = eqI x y := rfl
def itEq (f g : Bf) : Bool := decide (f.q = g.q ∧ f.g = g.g ∧ f.u = g.u ∧ f.i = g.i) && (f.x.same g.x && f.y.same g.y)
def btEq (f g : Bf) : Bool := decide (f.p = g.p ∧ f.e = g.e ∧ f.v = g.v)

theorem eq23m (m n : M6) (w : World) : (Op.equalIn 9999 23 (.agg #[.int .u8 m.a, .int .u8 m.b, .int .u8 m.c, .int .u8 m.d, .int .u8 m.e, .int .u8 m.f]) (.agg #[.int .u8 n.a, .int .u8 n.b, .int .u8 n.c, .int .u8 n.d, .int .u8 n.e, .int .u8 n.f])).run Try.prog w = .ok (m.same n) w := by
  have u5 := Try.underlying5
  have a5 := Try.isAgg5
  have z5 := Try.sizeOf5
  rw [show (9999 : Nat) = 9998 + 1 from rfl, Op.equalIn]
  simp only [Sem.run_bind, run_underlying Try.underlying23, Result.andThen_ok]
  simp only [Std.Legacy.Range.forIn_eq_forIn_range', Std.Legacy.Range.size, Nat.sub_zero, Nat.add_sub_cancel, Nat.div_one, List.range'_succ, List.range'_zero, List.forIn_cons, List.forIn_nil]
  go_simp
  unfold M6.same eq6
  by_cases h1 : m.a = n.a <;> simp [h1]
  by_cases h2 : m.b = n.b <;> simp [h2]
  by_cases h3 : m.c = n.c <;> simp [h3]
  by_cases h4 : m.d = n.d <;> simp [h4]
  by_cases h5 : m.e = n.e <;> simp [h5]
  by_cases h6 : m.f = n.f <;> simp [h6]

set_option maxHeartbeats 1000000 in
theorem eqI_itag (f g : Bf) (w : World) : (eqI f.itag g.itag).run Try.prog w = .ok (.bool (itEq f g)) w := by
  unfold eqI Bf.itag itEq
  have ex := eq23m
  obtain ⟨d, s, p, e, v, q, gg, u, i, x, y⟩ := f
  obtain ⟨d', s', p', e', v', q', gg', u', i', x', y'⟩ := g
  go_simp
  by_cases h1 : q = q' <;> simp [h1]
  by_cases h2 : gg = gg' <;> simp [h2]
  by_cases h3 : u = u' <;> simp [h3]
  by_cases h4 : i = i' <;> simp [h4]
  cases x.same x' <;> cases y.same y' <;> simp

attribute [local go_sem ↓] ldS_MAC ldS_Tag ldI27 ldS_BFrame stS_BFrame nqS_eq eqS_eq eqM_eq eqI_eq

theorem eqS_btag (f g : Bf) (w : World) : (eqS f.tag g.tag).run Try.prog w = .ok (.bool (btEq f g)) w := eqS_tag ⟨f.d, f.s, false, f.p, f.e, f.v⟩ ⟨g.d, g.s, false, g.p, g.e, g.v⟩ w
theorem guard_btags (op : BinOp) (x y : Operand) (f g : Bf) (w : World) : (eqGuard op 32 x y f.tag g.tag).run Try.prog w = .ok () w := guard_tags op x y ⟨f.d, f.s, false, f.p, f.e, f.v⟩ ⟨g.d, g.s, false, g.p, g.e, g.v⟩ w
theorem guard_itags (op : BinOp) (x y : Operand) (f g : Bf) (w : World) : (eqGuard op 47 x y f.itag g.itag).run Try.prog w = .ok () w := by
  unfold Bf.itag
  exact run_eqGuard_agg w op 47 x y _ _ Try.eqGuardType47

/-- Are frames of the backbone the same? -/
def sameBb (f : Bf) (l : List Int) (g : Bf) (m : List Int) : Bool := f.d.same g.d && (f.s.same g.s && (btEq f g && (itEq f g && beqL l m)))
theorem sameBb_self (f : Bf) (l : List Int) : sameBb f l f l = true := by simp [sameBb, M6.same_self, btEq, itEq, beqL_self]

set_option maxHeartbeats 1000000 in
theorem bsameref_any (f g : Bf) (x y : Value) (l m : List Int) (w : World) (hx : Src w x l) (hy : Src w y m) :
    Calls Try.prog 20 #[.agg (bcs f x), .agg (bcs g y)] w fun r w' => r = .returned (.bool (sameBb f l g m)) ∧ Below w.heap.size w w' := by
  have hB : Below w.heap.size w ((w.alloc (.cells (bcs f x) 49)).alloc (.cells (bcs g y) 49)) := ((Below.refl _ _).alloc (Nat.le_refl _) _).alloc (by simp) _
  have hF : BfAt ((w.alloc (.cells (bcs f x) 49)).alloc (.cells (bcs g y) 49)) w.heap.size f x := (BfAt.new w f x).below ((Below.refl _ _).alloc (Nat.le_refl _) _)
  have hG := BfAt.new (w.alloc (.cells (bcs f x) 49)) g y
  simp only [World.size_alloc] at hG
  have S1 := hx.below hB
  have S2 := hy.below hB
  have q1 := S1.string
  have q2 := S2.string
  have f1 := hF.ldd
  have f2 := hF.lds
  have f3 := hF.ldb
  have f4 := hF.ldi
  have f5 := hF.c31
  have g1 := hG.ldd
  have g2 := hG.lds
  have g3 := hG.ldb
  have g4 := hG.ldi
  have g5 := hG.c31
  have e1 := guard_mac .eql
  have e2 := guard_btags .eql
  have e5 := guard_itags .eql
  have e3 := eqM_mac
  have e4 := eqS_btag f g
  have e6 := eqI_itag f g
  have HS : Hid (sameBb f l g m = (f.d.same g.d && (f.s.same g.s && (btEq f g && (itEq f g && beqL l m))))) := rfl
  have HB : Hid (Below w.heap.size w ((w.alloc (.cells (bcs f x) 49)).alloc (.cells (bcs g y) 49))) := hB
  clear hx hy hB hF hG S1 S2
  obtain ⟨b1, h1⟩ : ∃ b, f.d.same g.d = b := ⟨_, rfl⟩
  obtain ⟨b2, h2⟩ : ∃ b, f.s.same g.s = b := ⟨_, rfl⟩
  obtain ⟨b3, h3⟩ : ∃ b, btEq f g = b := ⟨_, rfl⟩
  obtain ⟨b4, h4⟩ : ∃ b, itEq f g = b := ⟨_, rfl⟩
  rw [h3] at e4
  rw [h4] at e6
  rw [h1, h2, h3, h4] at HS
  clear h3 h4
  cases b1
  · go_enter Try.func20, Try.ntmps20
    go_wp2
    go_ret
    exact ⟨ret_bool (by rw [HS.out]; rfl), HB.out⟩
  cases b2
  · go_enter Try.func20, Try.ntmps20
    go_wp2
    go_ret
    exact ⟨ret_bool (by rw [HS.out]; rfl), HB.out⟩
  cases b3
  · go_enter Try.func20, Try.ntmps20
    go_wp2
    go_ret
    exact ⟨ret_bool (by rw [HS.out]; rfl), HB.out⟩
  cases b4
  · go_enter Try.func20, Try.ntmps20
    go_wp2
    go_ret
    exact ⟨ret_bool (by rw [HS.out]; rfl), HB.out⟩
  · go_enter Try.func20, Try.ntmps20
    go_wp2
    go_ret
    exact ⟨ret_bool (by rw [HS.out]; rfl), HB.out⟩
end S4
end

section
set_option linter.unusedVariables false
set_option maxRecDepth 4000
set_option linter.unusedSimpArgs false
open Go.RowKit
attribute [local go_sem ↓] ldP stP ldMc stMc ldFr stFr ldBf stBf slU S4.eqM_eq
attribute [local go_sem] gdM_mac eqM_self

set_option maxHeartbeats 16000000 in
theorem encaps_law (x : Pr) (p : Pv) (port : Int) (f : S4.Fr) (z : Value) (l : List Int) (known : S4.M6) (has : Bool) (w : World) (h : IsPv w x p) (hs : S4.Src w z l) (hb : ∀ x ∈ l, 0 ≤ x ∧ x ≤ 255) (hf : f.ok) (hk : known.ok) :
    Calls Try.prog 4 #[.agg x.cs, .int .i64 port, .agg (S4.fcs f z), .agg (mc known), .bool has] w fun r w' => r = .returned (.bool true) ∧ Below w.heap.size w w' := by
  obtain ⟨W1, hW1, r1, b1, z1⟩ := PrAt.new w x
  obtain ⟨W2, hW2, r2, b2, z2⟩ := FrAt.new W1 f z
  obtain ⟨V, hV, r3, b3, z3⟩ := McAt.new W2 known
  have B0 : Below w.heap.size w V := below_over b1 (below_over b2 b3)
  have R1 := r1.below (below_over b2 b3)
  have R2 := r2.below b3
  have HM : Hid (McAt V W2.heap.size known ∧ known.ok ∧ W1.heap.size < W2.heap.size ∧ W2.heap.size < V.heap.size) := ⟨r3, hk, by omega, by omega⟩
  clear r3 b3 hk
  have HB : Hid (Below w.heap.size w V ∧ PrAt V w.heap.size x ∧ FrAt V W1.heap.size f z ∧ w.heap.size < W1.heap.size ∧ W1.heap.size < V.heap.size) := ⟨B0, R1, R2, by omega, by omega⟩
  have HI : Hid (IsPv w x p ∧ S4.Src w z l ∧ (∀ x ∈ l, 0 ≤ x ∧ x ≤ 255) ∧ f.ok) := ⟨h, hs, hb, hf⟩
  have l0 := R1.ld
  clear R1 R2 B0 h hs hb hf r1 r2 b1 b2 z1 z2 z3
  go_enter Try.func4, Try.ntmps4
  go_wp2_with fail
  refine (few_at x p w V HI.out.1 HB.out.1).mono ?_
  rintro _ X1 ⟨⟨y, rfl, fy⟩, bx1⟩
  obtain ⟨Y1, s1, p1, g1⟩ := (HB.out.2.1.below bx1).st (y := y) (fy.pv (below_over HB.out.1 bx1)).one
  have K1 : Hid (PrAt Y1 w.heap.size y ∧ FewK w Y1 V.heap.size y (fewP p) ∧ Below w.heap.size w Y1 ∧ FrAt Y1 W1.heap.size f z) := ⟨p1, fy.kept g1 (by have := HB.out.2.2.2; omega), gro (below_over HB.out.1 bx1) g1 (Nat.le_refl _) (below_over HB.out.1 bx1).size, (HB.out.2.2.1.below bx1).keptBut g1 (by have := HB.out.2.2.2.1; simp; omega)⟩
  clear fy p1 l0
  have M1 : Hid (McAt Y1 W2.heap.size known) := (HM.out.1.below bx1).keptBut g1 (by have := HB.out.2.2.2.1; have := HM.out.2.2.1; simp; omega)
  clear g1 bx1
  have l0 := K1.out.2.2.2.ld
  go_wp2_with fail
  refine (fewf_any f z l w Y1 HI.out.2.1 K1.out.2.2.1).mono ?_
  rintro _ X2 ⟨⟨s, rfl, fs, _⟩, bx2⟩
  obtain ⟨Y2, s2, p2, g2⟩ := (K1.out.2.2.2.below bx2).st f s (S4.src_one fs)
  have K : Hid (LwP w Y2 V.heap.size w.heap.size W1.heap.size y (fewP p) f s (l.take 1510)) := ⟨gro (below_over K1.out.2.2.1 bx2) g2 (by have := HB.out.2.2.2.1; omega) (below_over K1.out.2.2.1 bx2).size, (K1.out.1.below bx2).keptBut g2 (by have := HB.out.2.2.2.1; simp; omega), (K1.out.2.1.below bx2).kept g2 (by have := HB.out.2.2.2; omega), p2, fs⟩
  have HL : Hid ((∀ x ∈ l.take 1510, 0 ≤ x ∧ x ≤ 255) ∧ (l.take 1510).length ≤ 1510) := ⟨fun x hx => HI.out.2.2.1 x (List.mem_of_mem_take hx), List.length_take_le _ _⟩
  have M2 : Hid (McAt Y2 W2.heap.size known) := (M1.out.below bx2).keptBut g2 (by have := HM.out.2.2.1; simp; omega)
  clear fs bx2 p2 g2 l0 K1
  obtain ⟨q, hq⟩ : ∃ e, fewP p = e := ⟨_, rfl⟩
  obtain ⟨m, hm⟩ : ∃ e, l.take 1510 = e := ⟨_, rfl⟩
  rw [hq, hm] at K
  rw [hm] at HL
  clear hq hm
  have l0 := K.out.pr.ld
  have l1 := K.out.fr.ld
  have l2 := M2.out.ld
  go_wp2_with fail
  refine (enc_any y q port f s m known has Y2 K.out.pv K.out.sr HL.out.1 HI.out.2.2.2 HM.out.2.1 (by have := HL.out.2; omega)).mono ?_
  rintro _ X3 ⟨t3, rfl, o3, bx3⟩
  obtain ⟨EB, hEB⟩ : ∃ e, encB q port f m known has = e := ⟨_, rfl⟩
  obtain ⟨EW, hEW⟩ : ∃ e, encW q port f m known has = e := ⟨_, rfl⟩
  obtain ⟨ER, hER⟩ : ∃ e, encR q port f m known has = e := ⟨_, rfl⟩
  have EQ : Hid (encB q port f m known has = EB ∧ encW q port f m known has = EW ∧ encR q port f m known has = ER) := ⟨hEB, hEW, hER⟩
  rw [hEB, hEW]
  rw [hER] at o3
  obtain ⟨Y3, s3, m3, by3, z3⟩ := BfAt.put X3 EB t3 o3.one
  have K3 : Hid (LwP w Y3 V.heap.size w.heap.size W1.heap.size y q f s m ∧ BfAt Y3 X3.heap.size EB t3 ∧ S4.Src Y3 t3 ER ∧ McAt Y3 W2.heap.size known) := ⟨(K.out.below bx3).below by3, m3, (o3.below by3).src, M2.out.below (below_over bx3 by3)⟩
  clear o3 bx3 m3 by3 z3 hEB hEW hER l0 l1 l2
  have l0 := K3.out.1.pr.ld
  have l1 := K3.out.1.fr.ld
  have l2 := K3.out.2.2.2.ld
  have C : Hid (Calls Try.prog 19 #[.agg y.cs, .int .i64 port, .agg (S4.fcs f s), .agg (mc known), .bool has] Y3 fun r w' => ∃ t, r = .returned (.tuple #[.agg (S4.bcs EB t), .int .i64 EW]) ∧ S4.Own w' Y3.heap.size t ER ∧ Below Y3.heap.size Y3 w') := by
    rw [← EQ.out.1, ← EQ.out.2.1, ← EQ.out.2.2]
    exact renc_any y q port f s m known has Y3 K3.out.1.pv K3.out.1.sr HL.out.1 HI.out.2.2.2 HM.out.2.1 (by have := HL.out.2; omega)
  go_wp2_with fail
  refine C.out.mono ?_
  rintro _ X4 ⟨t4, rfl, o4, bx4⟩
  obtain ⟨Y4, s4, m4, by4, z4⟩ := BfAt.put X4 EB t4 o4.one
  have b44 : Below Y3.heap.size Y3 Y4 := below_over bx4 by4
  have K4 : Hid (Below w.heap.size w Y4 ∧ (BfAt Y4 X3.heap.size EB t3 ∧ S4.Src Y4 t3 ER) ∧ BfAt Y4 X4.heap.size EB t4 ∧ S4.Src Y4 t4 ER) := ⟨below_over K3.out.1.bel b44, ⟨K3.out.2.1.below b44, K3.out.2.2.1.below b44⟩, m4, (o4.below by4).src⟩
  clear o4 bx4 m4 by4 z4 b44 K3 l0 l1 l2 C
  have l0 := K4.out.2.1.1.ld
  have l1 := K4.out.2.2.1.ld
  go_wp2_with fail
  refine (Calls.ret_eq (congrArg Value.bool (S4.sameBb_self _ _)) (S4.bsameref_any EB EB t3 t4 ER ER Y4 K4.out.2.1.2 K4.out.2.2.2)).mono ?_
  rintro _ X7 ⟨rfl, bx7⟩
  have K7 : Hid (Below w.heap.size w X7) := below_over K4.out.1 bx7
  clear l0 l1 bx7
  go_wp2_with fail
  refine (awake_any X7).mono ?_
  rintro _ X10 ⟨rfl, bx10⟩
  have K10 : Hid (Below w.heap.size w X10) := below_over K7.out bx10
  clear bx10
  go_wp2
  go_ret
  exact ⟨rfl, K10.out⟩
end

end Go.Proofs.Ytgjagedngdhdaaa
