/-
  The walk of which frames of the backbone may be: for every one.
-/
import Derived.Test.YteljcgdenagcmaaBFrame
namespace Go.Proofs.Yteljcgdenagcmaa
set_option linter.unusedVariables false
set_option maxRecDepth 4000
set_option linter.unusedSimpArgs false
open Go.RowKit

attribute [local go_sem ↓] slS_eq ldS23 ldS25 ldI27 ldS30 ldS38 stS38 stS30 nqS_eq eqS_eq

/-- Is such a frame wrong, however long it is? -/
def badB (f : Bf) (l : List Int) : Bool := (f.s.kd != 1) || ((f.d.kd == 6) || (!tagOk f.p f.v || (!itagOk f.q f.i || ((f.i == 0) || (chkF f.inn l != 0)))))
/-- The error of such a frame. -/
def chkB (f : Bf) (l : List Int) : Int := if 1502 < l.length then 2 else if badB f l then 40 else 0

set_option maxHeartbeats 400000 in
theorem within_sl (f : Bf) (a : Option Addr) (n c : Nat) (z : Value) (w : World) (hz : z.oneCell' = true) (ez : z = .slice a n c) :
    Calls Try.prog 35 #[.agg (bcs f z)] w fun r w' => r = .returned (.agg (fcs f.inn z)) ∧ Below w.heap.size w w' := by
  subst ez
  have hB : Below w.heap.size w ((w.alloc (.cells (bcs f (.slice a n c)) 30)).alloc (.cells #[.int .u8 0, .int .u8 0, .int .u8 0, .int .u8 0, .int .u8 0, .int .u8 0, .int .u8 0, .int .u8 0, .int .u8 0, .int .u8 0, .int .u8 0, .int .u8 0, .bool false, .int .i64 0, .bool false, .int .i64 0, .slice none 0 0] 38)) := ((Below.refl _ _).alloc (Nat.le_refl _) _).alloc (by simp) _
  have hF : BfAt ((w.alloc (.cells (bcs f (.slice a n c)) 30)).alloc (.cells #[.int .u8 0, .int .u8 0, .int .u8 0, .int .u8 0, .int .u8 0, .int .u8 0, .int .u8 0, .int .u8 0, .int .u8 0, .int .u8 0, .int .u8 0, .int .u8 0, .bool false, .int .i64 0, .bool false, .int .i64 0, .slice none 0 0] 38)) w.heap.size f (.slice a n c) := (BfAt.new w f (.slice a n c)).below ((Below.refl _ _).alloc (Nat.le_refl _) _)
  have hZ : FrAt ((w.alloc (.cells (bcs f (.slice a n c)) 30)).alloc (.cells #[.int .u8 0, .int .u8 0, .int .u8 0, .int .u8 0, .int .u8 0, .int .u8 0, .int .u8 0, .int .u8 0, .int .u8 0, .int .u8 0, .int .u8 0, .int .u8 0, .bool false, .int .i64 0, .bool false, .int .i64 0, .slice none 0 0] 38)) (w.heap.size + 1) zeroF (.slice none 0 0) := by have := zero_new (w.alloc (.cells (bcs f (.slice a n c)) 30)); simpa using this
  have lx := hF.ldx
  have ly := hF.ldy
  have c31 := hF.c31
  unfold M6.v at lx ly
  have st := hZ.stv (g := f.inn) (y := .slice a n c) hz (.agg #[.int .u8 f.x.a, .int .u8 f.x.b, .int .u8 f.x.c, .int .u8 f.x.d, .int .u8 f.x.e, .int .u8 f.x.f, .int .u8 f.y.a, .int .u8 f.y.b, .int .u8 f.y.c, .int .u8 f.y.d, .int .u8 f.y.e, .int .u8 f.y.f, .bool false, .int .i64 0, .bool false, .int .i64 0, .slice a n c]) rfl
  have HZ : Hid _ := And.intro (hZ.set (g := f.inn) (y := .slice a n c)) (below_setRow hB (g := w.heap.size + 1) (by omega) (fcs f.inn (.slice a n c)))
  clear hB hF hZ
  go_enter Try.func35, Try.ntmps35
  go_wp2
  refine bodyPost_ret (results_one Try.results35 _ _ _ _ _ rfl HZ.out.1) rfl ?_
  exact ⟨rfl, HZ.out.2⟩

theorem within_any (f : Bf) (a : Option Addr) (n c : Nat) (w : World) :
    Calls Try.prog 35 #[.agg (bcs f (.slice a n c))] w fun r w' => r = .returned (.agg (fcs f.inn (.slice a n c))) ∧ Below w.heap.size w w' := within_sl f a n c _ w rfl rfl

set_option maxHeartbeats 400000 in
theorem bfaults_long (f : Bf) (a : Option Addr) (n c : Nat) (w : World) (hc : n ≤ c) (hm : c ≤ maxLen) :
    Calls Try.prog 30 #[.agg (bcs f (.slice a n c)), .int .i64 2] w fun r w' => ∃ g, r = .returned (.slice (some ⟨g, 0, none⟩) 1 1) ∧ w'.cell? ⟨g, 0, none⟩ = some (.bool (decide ((1502 : Int) < (n : Int)))) ∧ Below w.heap.size w w' := by
  have c31 := (BfAt.new w f (.slice a n c)).c31
  go_enter Try.func30, Try.ntmps30
  go_wp2
  go_ret
  refine ⟨_, rfl, ?_, by go_grown⟩
  simp

set_option maxHeartbeats 2000000 in
theorem bfaults_all (f : Bf) (a : Option Addr) (n c : Nat) (l : List Int) (w : World) (h : Src w (.slice a n c) l) (hb : ∀ x ∈ l, 0 ≤ x ∧ x ≤ 255) (hf : f.ok) :
    Calls Try.prog 30 #[.agg (bcs f (.slice a n c)), .int .i64 40] w fun r w' => ∃ g, r = .returned (.slice (some ⟨g, 0, none⟩) 6 6) ∧ w'.cell? ⟨g, 0, none⟩ = some (.bool (f.s.kd != 1)) ∧ w'.cell? ⟨g, 1, none⟩ = some (.bool (f.d.kd == 6)) ∧
      w'.cell? ⟨g, 2, none⟩ = some (.bool (!tagOk f.p f.v)) ∧ w'.cell? ⟨g, 3, none⟩ = some (.bool (!itagOk f.q f.i)) ∧ w'.cell? ⟨g, 4, none⟩ = some (.bool (f.i == 0)) ∧ w'.cell? ⟨g, 5, none⟩ = some (.bool (chkF f.inn l != 0)) ∧ Below w.heap.size w w' := by
  have hB : Below w.heap.size w (w.alloc (.cells (bcs f (.slice a n c)) 30)) := (Below.refl _ _).alloc (Nat.le_refl _) _
  have H : Hid (Src w (.slice a n c) l ∧ ∀ x ∈ l, 0 ≤ x ∧ x ≤ 255) := ⟨h, hb⟩
  have hF := BfAt.new w f (.slice a n c)
  obtain ⟨yl, yd, ys, yb, yi, y18, y31⟩ := hF.laters
  obtain ⟨q, hq⟩ : ∃ q, tagOk f.p f.v = q := ⟨_, rfl⟩
  obtain ⟨k, hk⟩ : ∃ k, itagOk f.q f.i = k := ⟨_, rfl⟩
  obtain ⟨m1, hm1⟩ : ∃ k, f.s.kd = k := ⟨_, rfl⟩
  obtain ⟨m2, hm2⟩ : ∃ k, f.d.kd = k := ⟨_, rfl⟩
  obtain ⟨E, hE⟩ : ∃ E, chkF f.inn l = E := ⟨_, rfl⟩
  have Q1 : Hid (∀ W, Calls Try.prog 52 #[f.s.v] W fun r w' => r = .returned (.int .i64 m1) ∧ Below W.heap.size W w') := fun W => by rw [← hm1]; exact kind_m f.s W hf.2.1
  have Q2 : Hid (∀ W, Calls Try.prog 52 #[f.d.v] W fun r w' => r = .returned (.int .i64 m2) ∧ Below W.heap.size W w') := fun W => by rw [← hm2]; exact kind_m f.d W hf.1
  have Q3 : Hid (∀ W, Calls Try.prog 45 #[f.tag] W fun r w' => r = .returned (.int .i64 (chk q)) ∧ Below W.heap.size W w') := fun W => by rw [← hq]; exact checkB_f f W
  have Q4 : Hid (∀ W, Calls Try.prog 53 #[f.itag] W fun r w' => r = .returned (.int .i64 (chk k)) ∧ Below W.heap.size W w') := fun W => by rw [← hk]; exact checkBi_f f W
  have Q5 : Hid (∀ W, Calls Try.prog 35 #[.agg (bcs f (.slice a n c))] W fun r w' => r = .returned (.agg (fcs f.inn (.slice a n c))) ∧ Below W.heap.size W w') := fun W => within_any f a n c W
  have Q6 : Hid (∀ y : Later (w.alloc (.cells (bcs f (.slice a n c)) 30)), Calls Try.prog 44 #[.agg (fcs f.inn (.slice a n c))] y.val fun r w' => r = .returned (.int .i64 E) ∧ Below y.val.heap.size y.val w') := fun y => by rw [← hE]; exact check_fr f.inn _ l _ ((H.out.1.below hB).below y.below) H.out.2 (Bf.inn_ok hf)
  have HB : Hid (Below w.heap.size w (w.alloc (.cells (bcs f (.slice a n c)) 30))) := hB
  rw [hm1, hm2, hq, hk, hE]
  clear h hb hf hF hB H hm1 hm2 hq hk hE
  go_enter Try.func30, Try.ntmps30
  go_wp2
  refine wp_region_later_tail 24 (by kernel_rfl) (by kernel_rfl) ?_
  simp only [List.take_succ_cons, List.take_zero]
  repeat (go_big_quiet_step (first | exact rfl | (go_at_call 52; with_reducible exact Calls.later_of (Q1.out _)) | (go_at_call 52; with_reducible exact Calls.later_of (Q2.out _)) | (go_at_call 45; with_reducible exact Calls.later_of (Q3.out _)) | (go_at_call 53; with_reducible exact Calls.later_of (Q4.out _)) | (go_at_call 35; with_reducible exact Calls.later_of (Q5.out _)) | (go_at_call 44; with_reducible exact Calls.later_of (Q6.out _))))
  refine wpQuiet_nil ?_
  intro x
  simp only [List.drop_succ_cons, List.drop_zero]
  go_wp2
  go_ret
  refine ⟨_, rfl, ?_, ?_, ?_, ?_, ?_, ?_, (below_later HB.out x).alloc (below_later HB.out x).size _⟩
  all_goals first | (simp [chk]; done) | (cases q <;> cases k <;> simp [chk])

theorem bidx0 (w : World) : (Instr.index 58 (.agg #[.int .i64 2, .int .i64 40]) (.int .i64 0)).run Try.prog w = .ok (.int .i64 2) w := by kernel_rfl
theorem bidx1 (w : World) : (Instr.index 58 (.agg #[.int .i64 2, .int .i64 40]) (.int .i64 1)).run Try.prog w = .ok (.int .i64 40) w := by kernel_rfl

set_option maxHeartbeats 1000000 in
theorem bcheck_long (f : Bf) (a : Option Addr) (n c : Nat) (w : World) (hc : n ≤ c) (hm : c ≤ maxLen) (hL : (1502 : Int) < (n : Int)) :
    Calls Try.prog 12 #[.agg (bcs f (.slice a n c))] w fun r w' => r = .returned (.int .i64 2) ∧ Below w.heap.size w w' := by
  have i0 := bidx0
  have ld := (BfAt.new w f (.slice a n c)).ld
  have HB : Hid (Below w.heap.size w (w.alloc (.cells (bcs f (.slice a n c)) 30))) := (Below.refl _ _).alloc (Nat.le_refl _) _
  have HQ : Hid (n ≤ c ∧ c ≤ maxLen ∧ decide ((1502 : Int) < (n : Int)) = true) := ⟨hc, hm, decide_eq_true hL⟩
  clear hc hm hL
  go_enter Try.func12, Try.ntmps12
  go_wp2_with fail
  go_step3
  go_wp2_with fail
  go_step3
  go_wp2_with fail
  refine wp_loop_rounds 1 ?_
  rw [rounds_succ]
  go_wp2_with fail
  refine (bfaults_long f a n c _ HQ.out.1 HQ.out.2.1).mono ?_
  rintro _ w1 ⟨g, rfl, c0, hb1⟩
  rw [HQ.out.2.2] at c0
  have HB1 : Hid (Below w.heap.size w w1) := below_over HB.out hb1
  clear hb1 HB HQ ld
  go_wp2_with fail
  refine wp_loop_rounds 1 ?_
  rw [rounds_succ]
  go_wp2
  rw [Exit.noGoto_ret]
  go_ret
  exact ⟨rfl, HB1.out⟩


set_option maxHeartbeats 2000000 in
theorem bcheck_rest (f : Bf) (a : Option Addr) (n c : Nat) (w : World) (hc : n ≤ c) (hm : c ≤ maxLen) (hL : decide ((1502 : Int) < (n : Int)) = false) (b0 b1 b2 b3 b4 b5 : Bool)
    (h : ∀ W, Below w.heap.size w W → Calls Try.prog 30 #[.agg (bcs f (.slice a n c)), .int .i64 40] W fun r w' => ∃ g, r = .returned (.slice (some ⟨g, 0, none⟩) 6 6) ∧ w'.cell? ⟨g, 0, none⟩ = some (.bool b0) ∧ w'.cell? ⟨g, 1, none⟩ = some (.bool b1) ∧
      w'.cell? ⟨g, 2, none⟩ = some (.bool b2) ∧ w'.cell? ⟨g, 3, none⟩ = some (.bool b3) ∧ w'.cell? ⟨g, 4, none⟩ = some (.bool b4) ∧ w'.cell? ⟨g, 5, none⟩ = some (.bool b5) ∧ Below W.heap.size W w') :
    Calls Try.prog 12 #[.agg (bcs f (.slice a n c))] w fun r w' => r = .returned (.int .i64 (if b0 || (b1 || (b2 || (b3 || (b4 || b5)))) then 40 else 0)) ∧ Below w.heap.size w w' := by
  have hF := BfAt.new w f (.slice a n c)
  have i0 := bidx0
  have i1 := bidx1
  have ld := hF.ld
  have HF : Hid (BfAt (w.alloc (.cells (bcs f (.slice a n c)) 30)) w.heap.size f (.slice a n c)) := hF
  have HB : Hid (Below w.heap.size w (w.alloc (.cells (bcs f (.slice a n c)) 30))) := (Below.refl _ _).alloc (Nat.le_refl _) _
  have HQ : Hid (n ≤ c ∧ c ≤ maxLen ∧ decide ((1502 : Int) < (n : Int)) = false) := ⟨hc, hm, hL⟩
  have HH : Hid (∀ W, Below w.heap.size w W → Calls Try.prog 30 #[.agg (bcs f (.slice a n c)), .int .i64 40] W fun r w' => ∃ g, r = .returned (.slice (some ⟨g, 0, none⟩) 6 6) ∧ w'.cell? ⟨g, 0, none⟩ = some (.bool b0) ∧ w'.cell? ⟨g, 1, none⟩ = some (.bool b1) ∧
      w'.cell? ⟨g, 2, none⟩ = some (.bool b2) ∧ w'.cell? ⟨g, 3, none⟩ = some (.bool b3) ∧ w'.cell? ⟨g, 4, none⟩ = some (.bool b4) ∧ w'.cell? ⟨g, 5, none⟩ = some (.bool b5) ∧ Below W.heap.size W w') := h
  clear hc hm hL hF h
  go_enter Try.func12, Try.ntmps12
  go_wp2_with fail
  go_step3
  go_wp2_with fail
  go_step3
  go_wp2_with fail
  refine wp_loop_rounds 3 ?_
  rw [rounds_succ]
  go_wp2_with fail
  refine (bfaults_long f a n c _ HQ.out.1 HQ.out.2.1).mono ?_
  rintro _ w1 ⟨g, rfl, c0, hb1⟩
  rw [HQ.out.2.2] at c0
  have HB1 : Hid (Below w.heap.size w w1) := below_over HB.out hb1
  have ld1 := (HF.out.below hb1).ld
  clear hb1 HB HQ ld HF
  go_wp2_with fail
  refine wp_loop_rounds 2 ?_
  rw [rounds_succ]
  go_wp2_with fail
  rw [rounds_succ]
  go_wp2_with fail
  clear c0
  rw [rounds_succ]
  go_wp2_with fail
  refine (HH.out _ HB1.out).mono ?_
  rintro _ w2 ⟨g, rfl, c0, c1, c2, c3, c4, c5, hb2⟩
  have HB2 : Hid (Below w.heap.size w w2) := below_over HB1.out hb2
  clear hb2 HB1 ld1 HH
  go_wp2_with fail
  refine wp_loop_rounds 7 ?_
  rw [rounds_succ]
  cases b0
  rotate_left
  · go_wp2
    rw [Exit.noGoto_ret]
    go_ret
    exact ⟨rfl, HB2.out⟩
  go_wp2_with fail
  rw [rounds_succ]
  cases b1
  rotate_left
  · go_wp2
    rw [Exit.noGoto_ret]
    go_ret
    exact ⟨rfl, HB2.out⟩
  go_wp2_with fail
  rw [rounds_succ]
  cases b2
  rotate_left
  · go_wp2
    rw [Exit.noGoto_ret]
    go_ret
    exact ⟨rfl, HB2.out⟩
  go_wp2_with fail
  rw [rounds_succ]
  cases b3
  rotate_left
  · go_wp2
    rw [Exit.noGoto_ret]
    go_ret
    exact ⟨rfl, HB2.out⟩
  go_wp2_with fail
  rw [rounds_succ]
  cases b4
  rotate_left
  · go_wp2
    rw [Exit.noGoto_ret]
    go_ret
    exact ⟨rfl, HB2.out⟩
  go_wp2_with fail
  rw [rounds_succ]
  cases b5
  rotate_left
  · go_wp2
    rw [Exit.noGoto_ret]
    go_ret
    exact ⟨rfl, HB2.out⟩
  go_wp2_with fail
  rw [rounds_succ]
  go_wp2_with fail
  rw [rounds_succ]
  go_wp2
  rw [Exit.noGoto_ret]
  go_ret
  exact ⟨rfl, HB2.out⟩

theorem bcheck_any (f : Bf) (z : Value) (l : List Int) (w : World) (h : Src w z l) (hb : ∀ x ∈ l, 0 ≤ x ∧ x ≤ 255) (hf : f.ok) :
    Calls Try.prog 12 #[.agg (bcs f z)] w fun r w' => r = .returned (.int .i64 (chkB f l)) ∧ Below w.heap.size w w' := by
  obtain ⟨a, n, c, rfl⟩ := src_form h
  obtain ⟨hn, hc, hm⟩ := src_short h
  by_cases hL : (1502 : Int) < (n : Int)
  · have e : chkB f l = 2 := by unfold chkB; rw [if_pos (by omega)]
    rw [e]
    exact bcheck_long f a n c w hc hm hL
  · have := bcheck_rest f a n c w hc hm (decide_eq_false hL) _ _ _ _ _ _ (fun W hW => bfaults_all f a n c l W (h.below hW) hb hf)
    refine this.mono ?_
    rintro r w' ⟨hr, hB⟩
    refine ⟨?_, hB⟩
    have e1 : chkB f l = if badB f l then 40 else 0 := by unfold chkB; rw [if_neg (by omega)]
    rw [hr, e1]
    rfl
end Go.Proofs.Yteljcgdenagcmaa
