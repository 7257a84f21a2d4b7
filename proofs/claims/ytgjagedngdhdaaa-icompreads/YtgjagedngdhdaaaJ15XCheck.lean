/-
  The walk of which frames may be: for every frame. The walks of the statements' own cuts, of the page's frame, and of which frames are the same: for every frame. The walks of which frames are the same, and by definition: for all frames.
-/
import Derived.Test.YtgjagedngdhdaaaJ14Ib
import Derived.WalkMore
namespace Go.Proofs.Ytgjagedngdhdaaa

section
namespace S4
set_option linter.unusedVariables false
set_option maxRecDepth 4000
set_option linter.unusedSimpArgs false
open Go.RowKit

attribute [local go_sem ↓] slS_eq ldS_MAC ldS_Tag ldS_Frame stS_Frame nqS_eq eqS_eq

theorem idx0 (w : World) : (Instr.index 128 (.agg #[.int .i64 2, .int .i64 30]) (.int .i64 0)).run Try.prog w = .ok (.int .i64 2) w := by kernel_rfl
theorem idx1 (w : World) : (Instr.index 128 (.agg #[.int .i64 2, .int .i64 30]) (.int .i64 1)).run Try.prog w = .ok (.int .i64 30) w := by kernel_rfl

set_option maxHeartbeats 1000000 in
theorem check_long (f : Fr) (a : Option Addr) (n c : Nat) (w : World) (hc : n ≤ c) (hm : c ≤ maxLen) (hL : (1502 : Int) < (n : Int)) :
    Calls Try.prog 35 #[.agg (fcs f (.slice a n c))] w fun r w' => r = .returned (.int .i64 2) ∧ Below w.heap.size w w' := by
  have i0 := idx0
  have ld := (FrAt.new w f (.slice a n c)).ld
  have HB : Hid (Below w.heap.size w (w.alloc (.cells (fcs f (.slice a n c)) 34))) := (Below.refl _ _).alloc (Nat.le_refl _) _
  have HQ : Hid (n ≤ c ∧ c ≤ maxLen ∧ decide ((1502 : Int) < (n : Int)) = true) := ⟨hc, hm, decide_eq_true hL⟩
  clear hc hm hL
  go_enter Try.func35, Try.ntmps35
  go_wp2_with fail
  go_step3
  go_wp2_with fail
  go_step3
  go_wp2_with fail
  refine wp_loop_rounds 1 ?_
  rw [rounds_succ]
  go_wp2_with fail
  refine (faults_long f a n c _ HQ.out.1 HQ.out.2.1).mono ?_
  rintro _ w1 ⟨g, rfl, c0, hb1⟩
  rw [HQ.out.2.2] at c0
  have HB1 : Hid (Below w.heap.size w w1) := below_over HB.out hb1
  clear hb1 HB HQ ld
  go_wp2_with fail
  refine wp_loop_rounds 1 ?_
  rw [rounds_succ]
  go_wp2
  rw [Exit.noGoto_ret]
  go_ret
  exact ⟨rfl, HB1.out⟩


set_option maxHeartbeats 2000000 in
theorem check_rest (f : Fr) (a : Option Addr) (n c : Nat) (w : World) (hc : n ≤ c) (hm : c ≤ maxLen) (hL : decide ((1502 : Int) < (n : Int)) = false) (b0 b1 b2 b3 b4 b5 : Bool)
    (h : ∀ W, Below w.heap.size w W → Calls Try.prog 67 #[.agg (fcs f (.slice a n c)), .int .i64 30] W fun r w' => ∃ g, r = .returned (.slice (some ⟨g, 0, none⟩) 6 6) ∧ w'.cell? ⟨g, 0, none⟩ = some (.bool b0) ∧ w'.cell? ⟨g, 1, none⟩ = some (.bool b1) ∧
      w'.cell? ⟨g, 2, none⟩ = some (.bool b2) ∧ w'.cell? ⟨g, 3, none⟩ = some (.bool b3) ∧ w'.cell? ⟨g, 4, none⟩ = some (.bool b4) ∧ w'.cell? ⟨g, 5, none⟩ = some (.bool b5) ∧ Below W.heap.size W w') :
    Calls Try.prog 35 #[.agg (fcs f (.slice a n c))] w fun r w' => r = .returned (.int .i64 (if b0 || (b1 || (b2 || (b3 || (b4 || b5)))) then 30 else 0)) ∧ Below w.heap.size w w' := by
  have hF := FrAt.new w f (.slice a n c)
  have i0 := idx0
  have i1 := idx1
  have ld := hF.ld
  have HF : Hid (FrAt (w.alloc (.cells (fcs f (.slice a n c)) 34)) w.heap.size f (.slice a n c)) := hF
  have HB : Hid (Below w.heap.size w (w.alloc (.cells (fcs f (.slice a n c)) 34))) := (Below.refl _ _).alloc (Nat.le_refl _) _
  have HQ : Hid (n ≤ c ∧ c ≤ maxLen ∧ decide ((1502 : Int) < (n : Int)) = false) := ⟨hc, hm, hL⟩
  have HH : Hid (∀ W, Below w.heap.size w W → Calls Try.prog 67 #[.agg (fcs f (.slice a n c)), .int .i64 30] W fun r w' => ∃ g, r = .returned (.slice (some ⟨g, 0, none⟩) 6 6) ∧ w'.cell? ⟨g, 0, none⟩ = some (.bool b0) ∧ w'.cell? ⟨g, 1, none⟩ = some (.bool b1) ∧
      w'.cell? ⟨g, 2, none⟩ = some (.bool b2) ∧ w'.cell? ⟨g, 3, none⟩ = some (.bool b3) ∧ w'.cell? ⟨g, 4, none⟩ = some (.bool b4) ∧ w'.cell? ⟨g, 5, none⟩ = some (.bool b5) ∧ Below W.heap.size W w') := h
  clear hc hm hL hF h
  go_enter Try.func35, Try.ntmps35
  go_wp2_with fail
  go_step3
  go_wp2_with fail
  go_step3
  go_wp2_with fail
  refine wp_loop_rounds 3 ?_
  rw [rounds_succ]
  go_wp2_with fail
  refine (faults_long f a n c _ HQ.out.1 HQ.out.2.1).mono ?_
  rintro _ w1 ⟨g, rfl, c0, hb1⟩
  rw [HQ.out.2.2] at c0
  have HB1 : Hid (Below w.heap.size w w1) := below_over HB.out hb1
  have ld1 := (HF.out.below hb1).ld
  clear hb1 HB HQ ld HF
  go_wp2_with fail
  refine wp_loop_rounds 2 ?_
  rw [rounds_succ]
  go_wp2_with fail
  rw [rounds_succ]
  go_wp2_with fail
  clear c0
  rw [rounds_succ]
  go_wp2_with fail
  refine (HH.out _ HB1.out).mono ?_
  rintro _ w2 ⟨g, rfl, c0, c1, c2, c3, c4, c5, hb2⟩
  have HB2 : Hid (Below w.heap.size w w2) := below_over HB1.out hb2
  clear hb2 HB1 ld1 HH
  go_wp2_with fail
  refine wp_loop_rounds 7 ?_
  rw [rounds_succ]
  cases b0
  rotate_left
  · go_wp2
    rw [Exit.noGoto_ret]
    go_ret
    exact ⟨rfl, HB2.out⟩
  go_wp2_with fail
  rw [rounds_succ]
  cases b1
  rotate_left
  · go_wp2
    rw [Exit.noGoto_ret]
    go_ret
    exact ⟨rfl, HB2.out⟩
  go_wp2_with fail
  rw [rounds_succ]
  cases b2
  rotate_left
  · go_wp2
    rw [Exit.noGoto_ret]
    go_ret
    exact ⟨rfl, HB2.out⟩
  go_wp2_with fail
  rw [rounds_succ]
  cases b3
  rotate_left
  · go_wp2
    rw [Exit.noGoto_ret]
    go_ret
    exact ⟨rfl, HB2.out⟩
  go_wp2_with fail
  rw [rounds_succ]
  cases b4
  rotate_left
  · go_wp2
    rw [Exit.noGoto_ret]
    go_ret
    exact ⟨rfl, HB2.out⟩
  go_wp2_with fail
  rw [rounds_succ]
  cases b5
  rotate_left
  · go_wp2
    rw [Exit.noGoto_ret]
    go_ret
    exact ⟨rfl, HB2.out⟩
  go_wp2_with fail
  rw [rounds_succ]
  go_wp2_with fail
  rw [rounds_succ]
  go_wp2
  rw [Exit.noGoto_ret]
  go_ret
  exact ⟨rfl, HB2.out⟩

theorem check_fr (f : Fr) (x : Value) (l : List Int) (w : World) (h : Src w x l) (hb : ∀ x ∈ l, 0 ≤ x ∧ x ≤ 255) (hf : f.ok) :
    Calls Try.prog 35 #[.agg (fcs f x)] w fun r w' => r = .returned (.int .i64 (chkF f l)) ∧ Below w.heap.size w w' := by
  obtain ⟨a, n, c, rfl⟩ := src_form h
  obtain ⟨hn, hc, hm⟩ := src_short h
  by_cases hL : (1502 : Int) < (n : Int)
  · have e : chkF f l = 2 := by unfold chkF; rw [if_pos (by omega)]
    rw [e]
    exact check_long f a n c w hc hm hL
  · have := check_rest f a n c w hc hm (decide_eq_false hL) _ _ _ _ _ _ (fun W hW => faults_all f a n c l W (h.below hW) hb hf)
    refine this.mono ?_
    rintro r w' ⟨hr, hB⟩
    refine ⟨?_, hB⟩
    have e1 : chkF f l = if badF f l then 30 else 0 := by unfold chkF; rw [if_neg (by omega)]
    rw [hr, e1]
    apply ret_int
    unfold badF
    have e3 : (((l.length : Nat) : Int) < 2) ↔ l.length < 2 := by omega
    rw [hn]
    simp only [e3]
    generalize (f.s.kd != 1) = b0
    generalize (f.d.kd == 6) = b1
    generalize tagOk f.p f.v = b2
    generalize fz f = b3
    generalize decide (l.length < 2) = b4
    generalize (tyN l == 34984) = b5
    cases f.t <;> revert b0 b1 b2 b3 b4 b5 <;> decide
end S4
end

section
namespace S4
set_option linter.unusedVariables false
set_option maxRecDepth 4000
set_option linter.unusedSimpArgs false
open Go.RowKit

attribute [local go_sem ↓] ldS_MAC ldS_Tag ldS_Frame stS_Frame nqS_eq eqS_eq eqM_eq

theorem FrAt.lv {W : World} {b : Nat} {f : Fr} {x : Value} (h : FrAt W b f x) : (loadVar 34 ⟨b, 0, none⟩).run Try.prog W = .ok (.agg (fcs f x)) W :=
  run_loadVar_row (P := Try.prog) W b 34 34 (fcs f x) (0, 0) _ h Try.underlying34 rfl (by rw [fcs_size]; exact info_Frame)

/-- What a call answers whose one result lies in a variable. -/
theorem results_one {fn : Func} {k : Nat} (hr : fn.results = #[.cell k 34]) (tmps : Array Value) (w : World) (b : Nat) (f : Fr) (x : Value) (h2 : tmps.getD k undef = .pointer (some ⟨b, 0, none⟩)) (h : FrAt w b f x) :
    (results fn tmps).run Try.prog w = .ok (.agg (fcs f x)) w := by
  have hl := h.lv
  have h2' : tmps[k]?.getD undef = .pointer (some ⟨b, 0, none⟩) := by simpa using h2
  simp [results, hr, asAddr, hl, h2']
/-- .. whose first result lies in a variable, the other in a slot. -/
theorem results_two {fn : Func} {k j : Nat} (hr : fn.results = #[.cell k 34, .tmp j]) (tmps : Array Value) (w : World) (b : Nat) (f : Fr) (x e : Value) (h2 : tmps.getD k undef = .pointer (some ⟨b, 0, none⟩)) (h3 : tmps.getD j undef = e) (h : FrAt w b f x) :
    (results fn tmps).run Try.prog w = .ok (.tuple #[.agg (fcs f x), e]) w := by
  have hl := h.lv
  have h2' : tmps[k]?.getD undef = .pointer (some ⟨b, 0, none⟩) := by simpa using h2
  have h3' : tmps[j]?.getD undef = e := by simpa using h3
  simp [results, hr, asAddr, hl, h2', h3']

theorem fcs_set16 (f : Fr) (x y : Value) : (fcs f x).setIfInBounds 16 y = fcs f y := rfl
theorem fcs_set12 (f : Fr) (x : Value) (t : Bool) : (fcs f x).setIfInBounds 12 (.bool t) = fcs ⟨f.d, f.s, t, f.p, f.e, f.v⟩ x := rfl
theorem fcs_set15 (f : Fr) (x : Value) (v : Int) : (fcs f x).setIfInBounds 15 (.int .i64 v) = fcs ⟨f.d, f.s, f.t, f.p, f.e, v⟩ x := rfl
attribute [local go_sem] fcs_set16

/-- The rest of a frame, stored. -/
theorem FrAt.rest {W : World} {b : Nat} {f : Fr} {x : Value} (h : FrAt W b f x) (y : Value) : FrAt (W.setCell ⟨b, 16, none⟩ y) b f y := by
  unfold FrAt at *
  rw [heap_setCell_same W b 16 (fcs f x) 34 y h]
  rfl
theorem FrAt.tags {W : World} {b : Nat} {f : Fr} {x : Value} (h : FrAt W b f x) (p : Int) (e : Bool) (v : Int) : FrAt (((W.setCell ⟨b, 13, none⟩ (.int .i64 p)).setCell ⟨b, 14, none⟩ (.bool e)).setCell ⟨b, 15, none⟩ (.int .i64 v)) b ⟨f.d, f.s, f.t, p, e, v⟩ x := by
  unfold FrAt at *
  rw [heap_setCell_same _ b 15 _ 34 _ (heap_setCell_same _ b 14 _ 34 _ (heap_setCell_same W b 13 (fcs f x) 34 _ h))]
  rfl
theorem FrAt.vid {W : World} {b : Nat} {f : Fr} {x : Value} (h : FrAt W b f x) (v : Int) : FrAt (W.setCell ⟨b, 15, none⟩ (.int .i64 v)) b ⟨f.d, f.s, f.t, f.p, f.e, v⟩ x := by
  unfold FrAt at *
  rw [heap_setCell_same _ b 15 _ 34 _ h]
  rfl
theorem FrAt.flag {W : World} {b : Nat} {f : Fr} {x : Value} (h : FrAt W b f x) (t : Bool) : FrAt (W.setCell ⟨b, 12, none⟩ (.bool t)) b ⟨f.d, f.s, t, f.p, f.e, f.v⟩ x := by
  unfold FrAt at *
  rw [heap_setCell_same _ b 12 _ 34 _ h]
  rfl
theorem FrAt.apart {W : World} {b : Nat} {f : Fr} {x : Value} (h : FrAt W b f x) {a : Addr} (ha : b ≠ a.block) (y : Value) : FrAt (W.setCell a y) b f x := (heap_setCell_other W a b y ha).trans h

theorem zero_new (W : World) : FrAt (W.alloc (.cells #[.int .u8 0, .int .u8 0, .int .u8 0, .int .u8 0, .int .u8 0, .int .u8 0, .int .u8 0, .int .u8 0, .int .u8 0, .int .u8 0, .int .u8 0, .int .u8 0, .bool false, .int .i64 0, .bool false, .int .i64 0, .slice none 0 0] 34)) W.heap.size zeroF (.slice none 0 0) := FrAt.new W zeroF _

/-- The page's frame. -/
def plainF : Fr := ⟨⟨255, 255, 255, 255, 255, 255⟩, ⟨2, 0, 0, 0, 0, 1⟩, true, 3, false, 100⟩

theorem FrAt.stv {W : World} {b : Nat} {f g : Fr} {x y : Value} (h : FrAt W b f x) (hy : y.oneCell' = true) (v : Value) (hv : v = .agg (fcs g y)) : (stS 34 (.pointer (some ⟨b, 0, none⟩)) v).run Try.prog W = .ok () (W.setRow b (fcs g y)) := by
  subst hv
  exact h.st hy

/-- Are bytes the same? -/
def beqL (l m : List Int) : Bool := (bs l).toList == (bs m).toList
theorem beqL_self (l : List Int) : beqL l l = true := by simp [beqL]

end S4
end

section
namespace S4
set_option linter.unusedVariables false
set_option maxRecDepth 4000
set_option linter.unusedSimpArgs false
open Go.RowKit

attribute [local go_sem ↓] ldS_MAC ldS_Tag ldS_Frame stS_Frame nqS_eq eqS_eq eqM_eq

def tagEq (f g : Fr) : Bool := decide (f.p = g.p ∧ f.e = g.e ∧ f.v = g.v)
/-- Are frames the same? -/
def sameB (f : Fr) (l : List Int) (g : Fr) (m : List Int) : Bool := f.d.same g.d && (f.s.same g.s && ((f.t == g.t) && (tagEq f g && beqL l m)))
theorem M6.same_self (m : M6) : m.same m = true := eq6_self _ _ _ _ _ _
theorem same_self (f : Fr) (l : List Int) : sameB f l f l = true := by simp [sameB, M6.same_self, tagEq, beqL_self]

set_option maxHeartbeats 1000000 in
theorem sameref_any (f g : Fr) (x y : Value) (l m : List Int) (w : World) (hx : Src w x l) (hy : Src w y m) :
    Calls Try.prog 14 #[.agg (fcs f x), .agg (fcs g y)] w fun r w' => r = .returned (.bool (sameB f l g m)) ∧ Below w.heap.size w w' := by
  have hB : Below w.heap.size w ((w.alloc (.cells (fcs f x) 34)).alloc (.cells (fcs g y) 34)) := ((Below.refl _ _).alloc (Nat.le_refl _) _).alloc (by simp) _
  have hF : FrAt ((w.alloc (.cells (fcs f x) 34)).alloc (.cells (fcs g y) 34)) w.heap.size f x := (FrAt.new w f x).below ((Below.refl _ _).alloc (Nat.le_refl _) _)
  have hG := FrAt.new (w.alloc (.cells (fcs f x) 34)) g y
  simp only [World.size_alloc] at hG
  have S1 := hx.below hB
  have S2 := hy.below hB
  have q1 := S1.string
  have q2 := S2.string
  have f1 := hF.ldd
  have f2 := hF.lds
  have f3 := hF.ldt
  have f4 := hF.c12
  have f5 := hF.c16
  have g1 := hG.ldd
  have g2 := hG.lds
  have g3 := hG.ldt
  have g4 := hG.c12
  have g5 := hG.c16
  have e1 := guard_mac .eql
  have e2 := guard_tags .eql
  have e3 := eqM_mac
  have e4 := eqS_tag f g
  have hS : sameB f l g m = (f.d.same g.d && (f.s.same g.s && ((f.t == g.t) && (tagEq f g && beqL l m)))) := rfl
  have HS : Hid (sameB f l g m = (f.d.same g.d && (f.s.same g.s && ((f.t == g.t) && (tagEq f g && beqL l m))))) := hS
  have HB : Hid (Below w.heap.size w ((w.alloc (.cells (fcs f x) 34)).alloc (.cells (fcs g y) 34))) := hB
  clear hx hy hB hF hG S1 S2 hS
  obtain ⟨b1, h1⟩ : ∃ b, f.d.same g.d = b := ⟨_, rfl⟩
  obtain ⟨b2, h2⟩ : ∃ b, f.s.same g.s = b := ⟨_, rfl⟩
  obtain ⟨b3, h3⟩ : ∃ b, (f.t == g.t) = b := ⟨_, rfl⟩
  obtain ⟨b4, h4⟩ : ∃ b, tagEq f g = b := ⟨_, rfl⟩
  have e4' : ∀ W, (eqS f.tag g.tag).run Try.prog W = .ok (.bool b4) W := fun W => by rw [← h4]; exact e4 W
  rw [h1, h2, h3, h4] at HS
  clear e4 h4
  cases b1
  · go_enter Try.func14, Try.ntmps14
    go_wp2
    go_ret
    exact ⟨ret_bool (by rw [HS.out]; rfl), HB.out⟩
  cases b2
  · go_enter Try.func14, Try.ntmps14
    go_wp2
    go_ret
    exact ⟨ret_bool (by rw [HS.out]; rfl), HB.out⟩
  cases b3
  · go_enter Try.func14, Try.ntmps14
    go_wp2
    go_ret
    exact ⟨ret_bool (by rw [HS.out]; rfl), HB.out⟩
  cases b4
  · go_enter Try.func14, Try.ntmps14
    go_wp2
    go_ret
    exact ⟨ret_bool (by rw [HS.out]; rfl), HB.out⟩
  · go_enter Try.func14, Try.ntmps14
    go_wp2
    go_ret
    exact ⟨ret_bool (by rw [HS.out]; rfl), HB.out⟩

end S4
end

end Go.Proofs.Ytgjagedngdhdaaa
