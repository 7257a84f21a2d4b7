/-
  The walks of which frames of the backbone are the same, and by definition: for all.
-/
import Derived.Test.YteljcgdenagcmaaBFrame
namespace Go.Proofs.Yteljcgdenagcmaa
set_option linter.unusedVariables false
set_option maxRecDepth 4000
set_option linter.unusedSimpArgs false
open Go.RowKit

/-- Services' tags held against each other. -/
def eqI (x y : Value) : Sem Value := binOp .eql 27 x y
theorem eqI_eq (x y : Value) : binOp .eql 27 x y = eqI x y := rfl
def itEq (f g : Bf) : Bool := decide (f.q = g.q ∧ f.g = g.g ∧ f.u = g.u ∧ f.i = g.i) && (f.x.same g.x && f.y.same g.y)
def btEq (f g : Bf) : Bool := decide (f.p = g.p ∧ f.e = g.e ∧ f.v = g.v)

theorem eq23m (m n : M6) (w : World) : (Op.equalIn 9999 23 (.agg #[.int .u8 m.a, .int .u8 m.b, .int .u8 m.c, .int .u8 m.d, .int .u8 m.e, .int .u8 m.f]) (.agg #[.int .u8 n.a, .int .u8 n.b, .int .u8 n.c, .int .u8 n.d, .int .u8 n.e, .int .u8 n.f])).run Try.prog w = .ok (m.same n) w := by
  have u5 := Try.underlying5
  have a5 := Try.isAgg5
  have z5 := Try.sizeOf5
  rw [show (9999 : Nat) = 9998 + 1 from rfl, Op.equalIn]
  simp only [Sem.run_bind, run_underlying Try.underlying23, Result.andThen_ok]
  simp only [Std.Legacy.Range.forIn_eq_forIn_range', Std.Legacy.Range.size, Nat.sub_zero, Nat.add_sub_cancel, Nat.div_one, List.range'_succ, List.range'_zero, List.forIn_cons, List.forIn_nil]
  go_simp
  unfold M6.same eq6
  by_cases h1 : m.a = n.a <;> simp [h1]
  by_cases h2 : m.b = n.b <;> simp [h2]
  by_cases h3 : m.c = n.c <;> simp [h3]
  by_cases h4 : m.d = n.d <;> simp [h4]
  by_cases h5 : m.e = n.e <;> simp [h5]
  by_cases h6 : m.f = n.f <;> simp [h6]

set_option maxHeartbeats 1000000 in
theorem eqI_itag (f g : Bf) (w : World) : (eqI f.itag g.itag).run Try.prog w = .ok (.bool (itEq f g)) w := by
  unfold eqI Bf.itag itEq
  have ex := eq23m
  obtain ⟨d, s, p, e, v, q, gg, u, i, x, y⟩ := f
  obtain ⟨d', s', p', e', v', q', gg', u', i', x', y'⟩ := g
  go_simp
  by_cases h1 : q = q' <;> simp [h1]
  by_cases h2 : gg = gg' <;> simp [h2]
  by_cases h3 : u = u' <;> simp [h3]
  by_cases h4 : i = i' <;> simp [h4]
  cases x.same x' <;> cases y.same y' <;> simp

attribute [local go_sem ↓] ldS23 ldS25 ldI27 ldS30 stS30 nqS_eq eqS_eq eqM_eq eqI_eq

theorem eqS_btag (f g : Bf) (w : World) : (eqS f.tag g.tag).run Try.prog w = .ok (.bool (btEq f g)) w := eqS_tag ⟨f.d, f.s, false, f.p, f.e, f.v⟩ ⟨g.d, g.s, false, g.p, g.e, g.v⟩ w
theorem guard_btags (op : BinOp) (x y : Operand) (f g : Bf) (w : World) : (eqGuard op 25 x y f.tag g.tag).run Try.prog w = .ok () w := guard_tags op x y ⟨f.d, f.s, false, f.p, f.e, f.v⟩ ⟨g.d, g.s, false, g.p, g.e, g.v⟩ w
theorem guard_itags (op : BinOp) (x y : Operand) (f g : Bf) (w : World) : (eqGuard op 27 x y f.itag g.itag).run Try.prog w = .ok () w := by
  unfold Bf.itag
  exact run_eqGuard_agg w op 27 x y _ _ Try.eqGuardType27

/-- Are frames of the backbone the same? -/
def sameBb (f : Bf) (l : List Int) (g : Bf) (m : List Int) : Bool := f.d.same g.d && (f.s.same g.s && (btEq f g && (itEq f g && beqL l m)))
theorem sameBb_self (f : Bf) (l : List Int) : sameBb f l f l = true := by simp [sameBb, M6.same_self, btEq, itEq, beqL_self]

set_option maxHeartbeats 1000000 in
theorem bsame_any (f g : Bf) (x y : Value) (l m : List Int) (w : World) (hx : Src w x l) (hy : Src w y m) :
    Calls Try.prog 27 #[.agg (bcs f x), .agg (bcs g y)] w fun r w' => r = .returned (.bool (sameBb f l g m)) ∧ Below w.heap.size w w' := by
  have hB : Below w.heap.size w ((w.alloc (.cells (bcs f x) 30)).alloc (.cells (bcs g y) 30)) := ((Below.refl _ _).alloc (Nat.le_refl _) _).alloc (by simp) _
  have hF : BfAt ((w.alloc (.cells (bcs f x) 30)).alloc (.cells (bcs g y) 30)) w.heap.size f x := (BfAt.new w f x).below ((Below.refl _ _).alloc (Nat.le_refl _) _)
  have hG := BfAt.new (w.alloc (.cells (bcs f x) 30)) g y
  simp only [World.size_alloc] at hG
  have S1 := hx.below hB
  have S2 := hy.below hB
  have HQ : Hid _ := equal_any x y l m _ S1 S2
  have f1 := hF.ldd
  have f2 := hF.lds
  have f3 := hF.ldb
  have f4 := hF.ldi
  have f5 := hF.c31
  have g1 := hG.ldd
  have g2 := hG.lds
  have g3 := hG.ldb
  have g4 := hG.ldi
  have g5 := hG.c31
  have e1 := guard_mac .eql
  have e2 := guard_btags .eql
  have e5 := guard_itags .eql
  have e3 := eqM_mac
  have e4 := eqS_btag f g
  have e6 := eqI_itag f g
  have HS : Hid (sameBb f l g m = (f.d.same g.d && (f.s.same g.s && (btEq f g && (itEq f g && beqL l m))))) := rfl
  have HB : Hid (Below w.heap.size w ((w.alloc (.cells (bcs f x) 30)).alloc (.cells (bcs g y) 30))) := hB
  clear hx hy hB hF hG S1 S2
  obtain ⟨b1, h1⟩ : ∃ b, f.d.same g.d = b := ⟨_, rfl⟩
  obtain ⟨b2, h2⟩ : ∃ b, f.s.same g.s = b := ⟨_, rfl⟩
  obtain ⟨b3, h3⟩ : ∃ b, btEq f g = b := ⟨_, rfl⟩
  obtain ⟨b4, h4⟩ : ∃ b, itEq f g = b := ⟨_, rfl⟩
  rw [h3] at e4
  rw [h4] at e6
  rw [h1, h2, h3, h4] at HS
  clear h3 h4
  cases b1
  · go_enter Try.func27, Try.ntmps27
    go_wp2
    go_ret
    exact ⟨ret_bool (by rw [HS.out]; rfl), HB.out⟩
  cases b2
  · go_enter Try.func27, Try.ntmps27
    go_wp2
    go_ret
    exact ⟨ret_bool (by rw [HS.out]; rfl), HB.out⟩
  cases b3
  · go_enter Try.func27, Try.ntmps27
    go_wp2
    go_ret
    exact ⟨ret_bool (by rw [HS.out]; rfl), HB.out⟩
  cases b4
  · go_enter Try.func27, Try.ntmps27
    go_wp2
    go_ret
    exact ⟨ret_bool (by rw [HS.out]; rfl), HB.out⟩
  · go_enter Try.func27, Try.ntmps27
    go_wp2_with fail
    refine Calls.mono HQ.out ?_
    rintro _ W ⟨rfl, rfl⟩
    go_wp2
    go_ret
    exact ⟨ret_bool (by rw [HS.out]; rfl), HB.out⟩

set_option maxHeartbeats 1000000 in
theorem bsameref_any (f g : Bf) (x y : Value) (l m : List Int) (w : World) (hx : Src w x l) (hy : Src w y m) :
    Calls Try.prog 21 #[.agg (bcs f x), .agg (bcs g y)] w fun r w' => r = .returned (.bool (sameBb f l g m)) ∧ Below w.heap.size w w' := by
  have hB : Below w.heap.size w ((w.alloc (.cells (bcs f x) 30)).alloc (.cells (bcs g y) 30)) := ((Below.refl _ _).alloc (Nat.le_refl _) _).alloc (by simp) _
  have hF : BfAt ((w.alloc (.cells (bcs f x) 30)).alloc (.cells (bcs g y) 30)) w.heap.size f x := (BfAt.new w f x).below ((Below.refl _ _).alloc (Nat.le_refl _) _)
  have hG := BfAt.new (w.alloc (.cells (bcs f x) 30)) g y
  simp only [World.size_alloc] at hG
  have S1 := hx.below hB
  have S2 := hy.below hB
  have q1 := S1.string
  have q2 := S2.string
  have f1 := hF.ldd
  have f2 := hF.lds
  have f3 := hF.ldb
  have f4 := hF.ldi
  have f5 := hF.c31
  have g1 := hG.ldd
  have g2 := hG.lds
  have g3 := hG.ldb
  have g4 := hG.ldi
  have g5 := hG.c31
  have e1 := guard_mac .eql
  have e2 := guard_btags .eql
  have e5 := guard_itags .eql
  have e3 := eqM_mac
  have e4 := eqS_btag f g
  have e6 := eqI_itag f g
  have HS : Hid (sameBb f l g m = (f.d.same g.d && (f.s.same g.s && (btEq f g && (itEq f g && beqL l m))))) := rfl
  have HB : Hid (Below w.heap.size w ((w.alloc (.cells (bcs f x) 30)).alloc (.cells (bcs g y) 30))) := hB
  clear hx hy hB hF hG S1 S2
  obtain ⟨b1, h1⟩ : ∃ b, f.d.same g.d = b := ⟨_, rfl⟩
  obtain ⟨b2, h2⟩ : ∃ b, f.s.same g.s = b := ⟨_, rfl⟩
  obtain ⟨b3, h3⟩ : ∃ b, btEq f g = b := ⟨_, rfl⟩
  obtain ⟨b4, h4⟩ : ∃ b, itEq f g = b := ⟨_, rfl⟩
  rw [h3] at e4
  rw [h4] at e6
  rw [h1, h2, h3, h4] at HS
  clear h3 h4
  cases b1
  · go_enter Try.func21, Try.ntmps21
    go_wp2
    go_ret
    exact ⟨ret_bool (by rw [HS.out]; rfl), HB.out⟩
  cases b2
  · go_enter Try.func21, Try.ntmps21
    go_wp2
    go_ret
    exact ⟨ret_bool (by rw [HS.out]; rfl), HB.out⟩
  cases b3
  · go_enter Try.func21, Try.ntmps21
    go_wp2
    go_ret
    exact ⟨ret_bool (by rw [HS.out]; rfl), HB.out⟩
  cases b4
  · go_enter Try.func21, Try.ntmps21
    go_wp2
    go_ret
    exact ⟨ret_bool (by rw [HS.out]; rfl), HB.out⟩
  · go_enter Try.func21, Try.ntmps21
    go_wp2
    go_ret
    exact ⟨ret_bool (by rw [HS.out]; rfl), HB.out⟩
end Go.Proofs.Yteljcgdenagcmaa
