/-
  The walk of a frame in another VLAN: for every frame and number.
-/
import Derived.Test.YtnkchahjdacboaaSmall
import Derived.Test.YtnkchahjdacboaaEncode
namespace Go.Proofs.Ytnkchahjdacboaa
set_option linter.unusedVariables false
set_option linter.unusedSimpArgs false
open Go.RowKit

attribute [local go_sem ↓] ldS23 ldS25 ldS28 stS28 nqS_eq eqS_eq eqM_eq

/-- The error of retagging. -/
def rtE (f : Fr) (l : List Int) (v : Int) : Int := if chkF f l = 0 then (if f.t then (if 1 ≤ v ∧ v ≤ 4094 then 0 else 1) else 30) else chkF f l
/-- The frame in another VLAN. -/
def Fr.vid (f : Fr) (v : Int) : Fr := ⟨f.d, f.s, f.t, f.p, f.e, v⟩
def rtF (f : Fr) (l : List Int) (v : Int) : Fr := if rtE f l v = 0 then f.vid v else zeroF
def rtR (f : Fr) (l : List Int) (v : Int) : List Int := if rtE f l v = 0 then l else []
def RtOut (f : Fr) (l : List Int) (v : Int) (w : World) (r : Ending) (w' : World) : Prop :=
  ∃ s, r = .returned (.tuple #[.agg (fcs (rtF f l v) s), .int .i64 (rtE f l v)]) ∧ Own w' w.heap.size s (rtR f l v) ∧ Below w.heap.size w w'

theorem rt_err {f : Fr} {l : List Int} {v : Int} {w w' : World} (e : Int) (he : rtE f l v = e) (h0 : ¬ e = 0) (hb : Below w.heap.size w w') : RtOut f l v w (.returned (.tuple #[.agg (fcs zeroF (.slice none 0 0)), .int .i64 e])) w' := by
  refine ⟨.slice none 0 0, ?_, ?_, hb⟩
  · unfold rtF; rw [he, if_neg h0]
  · unfold rtR; rw [he, if_neg h0]; exact own_nil _ _
theorem rt_ok {f : Fr} {l : List Int} {v : Int} {w w' : World} {s : Value} (he : rtE f l v = 0) (ho : Own w' w.heap.size s l) (hb : Below w.heap.size w w') : RtOut f l v w (.returned (.tuple #[.agg (fcs (f.vid v) s), .int .i64 0])) w' := by
  refine ⟨s, ?_, ?_, hb⟩
  · unfold rtF; rw [he, if_pos rfl]
  · unfold rtR; rw [he, if_pos rfl]; exact ho

/-- The frame's variable and the one for the answer. -/
structure Two (w W : World) (f : Fr) (x : Value) : Prop where
  fr : FrAt W w.heap.size f x
  z : FrAt W (w.heap.size + 1) zeroF (.slice none 0 0)
  below : Below w.heap.size w W
theorem Two.new (w : World) (f : Fr) (x : Value) : Two w ((w.alloc (.cells (fcs f x) 28)).alloc (.cells #[.int .u8 0, .int .u8 0, .int .u8 0, .int .u8 0, .int .u8 0, .int .u8 0, .int .u8 0, .int .u8 0, .int .u8 0, .int .u8 0, .int .u8 0, .int .u8 0, .bool false, .int .i64 0, .bool false, .int .i64 0, .slice none 0 0] 28)) f x where
  fr := (FrAt.new w f x).below ((Below.refl _ _).alloc (Nat.le_refl _) _)
  z := by have := zero_new (w.alloc (.cells (fcs f x) 28)); simpa using this
  below := ((Below.refl _ _).alloc (Nat.le_refl _) _).alloc (by simp) _
theorem Two.later {w W W' : World} {f : Fr} {x : Value} (h : Two w W f x) (hb : Below W.heap.size W W') : Two w W' f x := ⟨h.fr.below hb, h.z.below hb, below_over h.below hb⟩
/-- The frame of zeros is stored for the answer. -/
theorem Two.zero {w W : World} {f : Fr} {x : Value} (h : Two w W f x) : (stS 28 (.pointer (some ⟨w.heap.size + 1, 0, none⟩)) (.agg #[.int .u8 0, .int .u8 0, .int .u8 0, .int .u8 0, .int .u8 0, .int .u8 0, .int .u8 0, .int .u8 0, .int .u8 0, .int .u8 0, .int .u8 0, .int .u8 0, .bool false, .int .i64 0, .bool false, .int .i64 0, .slice none 0 0])).run Try.prog W = .ok () (W.setRow (w.heap.size + 1) (fcs zeroF (.slice none 0 0))) := h.z.stv (g := zeroF) (y := .slice none 0 0) rfl _ rfl
theorem Two.zeroAt {w W : World} {f : Fr} {x : Value} (h : Two w W f x) : FrAt (W.setRow (w.heap.size + 1) (fcs zeroF (.slice none 0 0))) (w.heap.size + 1) zeroF (.slice none 0 0) := h.z.set
theorem Two.zeroBelow {w W : World} {f : Fr} {x : Value} (h : Two w W f x) (cs : Array Value) : Below w.heap.size w (W.setRow (w.heap.size + 1) cs) := below_setRow h.below (by omega) _

theorem carried_f (f : Fr) (v : Int) (w : World) (h : tagOk f.p f.v = true) :
    Calls Try.prog 34 #[f.tag, .int .i64 v] w fun r w' => r = .returned (.tuple #[.agg #[.int .i64 (carP f.p f.v v), .bool (carD f.e f.p f.v v), .int .i64 (carV f.p f.v v)], .int .i64 (chk (carOk f.p f.v v))]) ∧ Below w.heap.size w w' := carried_any f.p f.v v f.e w

set_option maxHeartbeats 1000000 in
theorem retag_no (f : Fr) (x : Value) (l : List Int) (v : Int) (w : World) (h : Src w x l) (hb : ∀ x ∈ l, 0 ≤ x ∧ x ≤ 255) (hf : f.ok) (he : ¬ chkF f l = 0) :
    Calls Try.prog 17 #[.agg (fcs f x), .int .i64 v] w fun r w' => RtOut f l v w r w' := by
  have h0 := Two.new w f x
  have ld := h0.fr.ld
  have T0 : Hid (Two w ((w.alloc (.cells (fcs f x) 28)).alloc (.cells #[.int .u8 0, .int .u8 0, .int .u8 0, .int .u8 0, .int .u8 0, .int .u8 0, .int .u8 0, .int .u8 0, .int .u8 0, .int .u8 0, .int .u8 0, .int .u8 0, .bool false, .int .i64 0, .bool false, .int .i64 0, .slice none 0 0] 28)) f x) := h0
  have S0 : Hid (Src ((w.alloc (.cells (fcs f x) 28)).alloc (.cells #[.int .u8 0, .int .u8 0, .int .u8 0, .int .u8 0, .int .u8 0, .int .u8 0, .int .u8 0, .int .u8 0, .int .u8 0, .int .u8 0, .int .u8 0, .int .u8 0, .bool false, .int .i64 0, .bool false, .int .i64 0, .slice none 0 0] 28)) x l) := h.below h0.below
  have HK : Hid _ := check_fr f x l ((w.alloc (.cells (fcs f x) 28)).alloc (.cells #[.int .u8 0, .int .u8 0, .int .u8 0, .int .u8 0, .int .u8 0, .int .u8 0, .int .u8 0, .int .u8 0, .int .u8 0, .int .u8 0, .int .u8 0, .int .u8 0, .bool false, .int .i64 0, .bool false, .int .i64 0, .slice none 0 0] 28)) S0.out hb hf
  have HE : Hid (rtE f l v = chkF f l) := by unfold rtE; rw [if_neg he]; rfl
  obtain ⟨E, hE⟩ : ∃ E, chkF f l = E := ⟨_, rfl⟩
  rw [hE] at he HE HK
  have he' : (E != 0) = true := by simpa using he
  have HN : Hid (¬ E = 0) := he
  clear h hb hf h0 hE he
  go_enter Try.func17, Try.ntmps17
  go_wp2_with fail
  refine Calls.mono HK.out ?_
  rintro _ W ⟨rfl, hW⟩
  have T1 : Hid (Two w W f x) := T0.out.later hW
  have zs := T1.out.zero
  have HZ : Hid _ := And.intro T1.out.zeroAt (T1.out.zeroBelow (fcs zeroF (.slice none 0 0)))
  clear hW ld T0 S0 HK
  go_wp2
  refine bodyPost_ret (results_two Try.results17 _ _ _ _ _ _ rfl rfl HZ.out.1) rfl ?_
  exact rt_err E HE.out HN.out HZ.out.2

set_option maxHeartbeats 1000000 in
theorem retag_plain (f : Fr) (x : Value) (l : List Int) (v : Int) (w : World) (h : Src w x l) (hb : ∀ x ∈ l, 0 ≤ x ∧ x ≤ 255) (hf : f.ok) (he : chkF f l = 0) (ht : f.t = false) :
    Calls Try.prog 17 #[.agg (fcs f x), .int .i64 v] w fun r w' => RtOut f l v w r w' := by
  have h0 := Two.new w f x
  have ld := h0.fr.ld
  have T0 : Hid (Two w ((w.alloc (.cells (fcs f x) 28)).alloc (.cells #[.int .u8 0, .int .u8 0, .int .u8 0, .int .u8 0, .int .u8 0, .int .u8 0, .int .u8 0, .int .u8 0, .int .u8 0, .int .u8 0, .int .u8 0, .int .u8 0, .bool false, .int .i64 0, .bool false, .int .i64 0, .slice none 0 0] 28)) f x) := h0
  have S0 : Hid (Src ((w.alloc (.cells (fcs f x) 28)).alloc (.cells #[.int .u8 0, .int .u8 0, .int .u8 0, .int .u8 0, .int .u8 0, .int .u8 0, .int .u8 0, .int .u8 0, .int .u8 0, .int .u8 0, .int .u8 0, .int .u8 0, .bool false, .int .i64 0, .bool false, .int .i64 0, .slice none 0 0] 28)) x l) := h.below h0.below
  have HK : Hid _ := check_fr f x l ((w.alloc (.cells (fcs f x) 28)).alloc (.cells #[.int .u8 0, .int .u8 0, .int .u8 0, .int .u8 0, .int .u8 0, .int .u8 0, .int .u8 0, .int .u8 0, .int .u8 0, .int .u8 0, .int .u8 0, .int .u8 0, .bool false, .int .i64 0, .bool false, .int .i64 0, .slice none 0 0] 28)) S0.out hb hf
  have HE : Hid (rtE f l v = 30) := by unfold rtE; rw [if_pos he, ht]; rfl
  rw [he] at HK
  have HT : Hid (f.t = false) := ht
  clear h hb hf h0 he ht
  go_enter Try.func17, Try.ntmps17
  go_wp2_with fail
  refine Calls.mono HK.out ?_
  rintro _ W ⟨rfl, hW⟩
  have T1 : Hid (Two w W f x) := T0.out.later hW
  have c12 := T1.out.fr.c12
  rw [HT.out] at c12
  have zs := T1.out.zero
  have HZ : Hid _ := And.intro T1.out.zeroAt (T1.out.zeroBelow (fcs zeroF (.slice none 0 0)))
  clear hW ld T0 S0 HK
  go_wp2
  refine bodyPost_ret (results_two Try.results17 _ _ _ _ _ _ rfl rfl HZ.out.1) rfl ?_
  exact rt_err 30 HE.out (by omega) HZ.out.2

theorem car_out {p v x : Int} (h : tagOk p v = true) : carOk p v x = decide (1 ≤ x ∧ x ≤ 4094) := by
  have := tagOk_iff.1 h
  unfold carOk
  rw [h, Bool.true_and]
  unfold tagOk
  apply decide_eq_decide.2
  omega

set_option maxHeartbeats 1000000 in
theorem retag_far (f : Fr) (x : Value) (l : List Int) (v : Int) (w : World) (h : Src w x l) (hb : ∀ x ∈ l, 0 ≤ x ∧ x ≤ 255) (hf : f.ok) (he : chkF f l = 0) (ht : f.t = true) (hv : ¬ (1 ≤ v ∧ v ≤ 4094)) :
    Calls Try.prog 17 #[.agg (fcs f x), .int .i64 v] w fun r w' => RtOut f l v w r w' := by
  have h0 := Two.new w f x
  have ld := h0.fr.ld
  have T0 : Hid (Two w ((w.alloc (.cells (fcs f x) 28)).alloc (.cells #[.int .u8 0, .int .u8 0, .int .u8 0, .int .u8 0, .int .u8 0, .int .u8 0, .int .u8 0, .int .u8 0, .int .u8 0, .int .u8 0, .int .u8 0, .int .u8 0, .bool false, .int .i64 0, .bool false, .int .i64 0, .slice none 0 0] 28)) f x) := h0
  have S0 : Hid (Src ((w.alloc (.cells (fcs f x) 28)).alloc (.cells #[.int .u8 0, .int .u8 0, .int .u8 0, .int .u8 0, .int .u8 0, .int .u8 0, .int .u8 0, .int .u8 0, .int .u8 0, .int .u8 0, .int .u8 0, .int .u8 0, .bool false, .int .i64 0, .bool false, .int .i64 0, .slice none 0 0] 28)) x l) := h.below h0.below
  have HK : Hid _ := check_fr f x l ((w.alloc (.cells (fcs f x) 28)).alloc (.cells #[.int .u8 0, .int .u8 0, .int .u8 0, .int .u8 0, .int .u8 0, .int .u8 0, .int .u8 0, .int .u8 0, .int .u8 0, .int .u8 0, .int .u8 0, .int .u8 0, .bool false, .int .i64 0, .bool false, .int .i64 0, .slice none 0 0] 28)) S0.out hb hf
  have HE : Hid (rtE f l v = 1) := by unfold rtE; rw [if_pos he, ht, if_pos rfl, if_neg hv]; rfl
  rw [he] at HK
  have HT : Hid (f.t = true ∧ tagOk f.p f.v = true) := ⟨ht, (chk_zero he).2.1 ht⟩
  have HO : Hid (carOk f.p f.v v = false) := by rw [car_out HT.out.2]; exact decide_eq_false hv
  clear h hb hf h0 he ht hv
  go_enter Try.func17, Try.ntmps17
  go_wp2_with fail
  refine Calls.mono HK.out ?_
  rintro _ W ⟨rfl, hW⟩
  have T1 : Hid (Two w W f x) := T0.out.later hW
  have c12 := T1.out.fr.c12
  have ldt := T1.out.fr.ldt
  rw [HT.out.1] at c12
  clear hW ld T0 S0 HK
  go_wp2_with fail
  refine (carried_f f v _ HT.out.2).mono ?_
  rintro _ W2 ⟨rfl, hW2⟩
  rw [HO.out, show chk false = 20 from rfl]
  have T2 : Hid (Two w (W2.alloc (.cells #[.int .i64 (carP f.p f.v v), .bool (carD f.e f.p f.v v), .int .i64 (carV f.p f.v v)] 25)) f x) := T1.out.later (hW2.alloc hW2.size _)
  have zs := T2.out.zero
  have HZ : Hid _ := And.intro T2.out.zeroAt (T2.out.zeroBelow (fcs zeroF (.slice none 0 0)))
  clear hW2 ldt c12 T1
  go_wp2
  refine bodyPost_ret (results_two Try.results17 _ _ _ _ _ _ rfl rfl HZ.out.1) rfl ?_
  exact rt_err 1 HE.out (by omega) HZ.out.2

theorem ld25_new (W : World) (p : Int) (e : Bool) (v : Int) : (ldS 25 (.pointer (some ⟨W.heap.size, 0, none⟩))).run Try.prog (W.alloc (.cells #[.int .i64 p, .bool e, .int .i64 v] 25)) = .ok (.agg #[.int .i64 p, .bool e, .int .i64 v]) (W.alloc (.cells #[.int .i64 p, .bool e, .int .i64 v] 25)) := by
  have hr := World.rangeAt_of_block (alloc_at W (.cells #[.int .i64 p, .bool e, .int .i64 v] 25)) 0 3
  exact run_loadAt_mid _ _ 0 25 _ _ hr Try.underlying25 rfl info25

set_option maxHeartbeats 1000000 in
theorem retag_yes (f : Fr) (x : Value) (l : List Int) (v : Int) (w : World) (h : Src w x l) (hb : ∀ x ∈ l, 0 ≤ x ∧ x ≤ 255) (hf : f.ok) (he : chkF f l = 0) (ht : f.t = true) (hv : 1 ≤ v ∧ v ≤ 4094) :
    Calls Try.prog 17 #[.agg (fcs f x), .int .i64 v] w fun r w' => RtOut f l v w r w' := by
  have h0 := Two.new w f x
  have ld := h0.fr.ld
  have T0 : Hid (Two w ((w.alloc (.cells (fcs f x) 28)).alloc (.cells #[.int .u8 0, .int .u8 0, .int .u8 0, .int .u8 0, .int .u8 0, .int .u8 0, .int .u8 0, .int .u8 0, .int .u8 0, .int .u8 0, .int .u8 0, .int .u8 0, .bool false, .int .i64 0, .bool false, .int .i64 0, .slice none 0 0] 28)) f x) := h0
  have S0 : Hid (Src ((w.alloc (.cells (fcs f x) 28)).alloc (.cells #[.int .u8 0, .int .u8 0, .int .u8 0, .int .u8 0, .int .u8 0, .int .u8 0, .int .u8 0, .int .u8 0, .int .u8 0, .int .u8 0, .int .u8 0, .int .u8 0, .bool false, .int .i64 0, .bool false, .int .i64 0, .slice none 0 0] 28)) x l) := h.below h0.below
  have HK : Hid _ := check_fr f x l ((w.alloc (.cells (fcs f x) 28)).alloc (.cells #[.int .u8 0, .int .u8 0, .int .u8 0, .int .u8 0, .int .u8 0, .int .u8 0, .int .u8 0, .int .u8 0, .int .u8 0, .int .u8 0, .int .u8 0, .int .u8 0, .bool false, .int .i64 0, .bool false, .int .i64 0, .slice none 0 0] 28)) S0.out hb hf
  have HE : Hid (rtE f l v = 0) := by unfold rtE; rw [if_pos he, ht, if_pos rfl, if_pos hv]; rfl
  have SO : Hid (Src w x l) := h
  have HL : Hid (l.length ≤ 2000) := by have := (chk_zero he).1; show _ ≤ _; omega
  rw [he] at HK
  have HT : Hid (f.t = true ∧ tagOk f.p f.v = true) := ⟨ht, (chk_zero he).2.1 ht⟩
  have HO : Hid (carOk f.p f.v v = true) := by rw [car_out HT.out.2]; exact decide_eq_true hv
  have HC : Hid (carP f.p f.v v = f.p ∧ carD f.e f.p f.v v = f.e ∧ carV f.p f.v v = v) := by
    have := HO.out
    refine ⟨?_, ?_, ?_⟩
    · unfold carP; rw [if_pos this]
    · unfold carD; rw [if_pos this]
    · unfold carV; rw [if_pos this]
  clear h hb hf h0 he ht hv
  go_enter Try.func17, Try.ntmps17
  go_wp2_with fail
  refine Calls.mono HK.out ?_
  rintro _ W ⟨rfl, hW⟩
  have T1 : Hid (Two w W f x) := T0.out.later hW
  have S1 : Hid (Src W x l) := S0.out.below hW
  have c12 := T1.out.fr.c12
  have ldt := T1.out.fr.ldt
  rw [HT.out.1] at c12
  clear hW ld T0 S0 HK
  go_wp2_with fail
  refine (carried_f f v _ HT.out.2).mono ?_
  rintro _ W2 ⟨rfl, hW2⟩
  rw [HO.out, HC.out.1, HC.out.2.1, HC.out.2.2, show chk true = 0 from rfl]
  have T2 : Hid (Two w (W2.alloc (.cells #[.int .i64 f.p, .bool f.e, .int .i64 v] 25)) f x) := T1.out.later (hW2.alloc hW2.size _)
  have S2 : Hid (Src (W2.alloc (.cells #[.int .i64 f.p, .bool f.e, .int .i64 v] 25)) x l) := S1.out.below (hW2.alloc hW2.size _)
  have l25 := ld25_new W2 f.p f.e v
  have k13 := T2.out.fr.c13
  have k14 := T2.out.fr.c14
  have k15 := T2.out.fr.c15
  have lv := T2.out.fr.live
  clear hW2 ldt c12 T1 S1
  have h4 : Two w ((((W2.alloc (.cells #[.int .i64 f.p, .bool f.e, .int .i64 v] 25)).setCell ⟨w.heap.size, 13, none⟩ (.int .i64 f.p)).setCell ⟨w.heap.size, 14, none⟩ (.bool f.e)).setCell ⟨w.heap.size, 15, none⟩ (.int .i64 v)) (f.vid v) x := ⟨T2.out.fr.tags f.p f.e v, ((T2.out.z.apart (by simp) _).apart (by simp) _).apart (by simp) _, ((T2.out.below.setCell (by simp) _).setCell (by simp) _).setCell (by simp) _⟩
  have T4 : Hid (Two w ((((W2.alloc (.cells #[.int .i64 f.p, .bool f.e, .int .i64 v] 25)).setCell ⟨w.heap.size, 13, none⟩ (.int .i64 f.p)).setCell ⟨w.heap.size, 14, none⟩ (.bool f.e)).setCell ⟨w.heap.size, 15, none⟩ (.int .i64 v)) (f.vid v) x) := h4
  have S4 : Hid (Src ((((W2.alloc (.cells #[.int .i64 f.p, .bool f.e, .int .i64 v] 25)).setCell ⟨w.heap.size, 13, none⟩ (.int .i64 f.p)).setCell ⟨w.heap.size, 14, none⟩ (.bool f.e)).setCell ⟨w.heap.size, 15, none⟩ (.int .i64 v)) x l) := SO.out.below h4.below
  have c16 := h4.fr.c16
  clear h4 S2
  go_wp2_with fail
  refine (clone_v x l _ S4.out HL.out).mono ?_
  rintro _ W5 ⟨s5, rfl, ho5, hb5⟩
  have T5 : Hid (Two w W5 (f.vid v) x) := T4.out.later hb5
  obtain ⟨a5, n5, e5, rfl⟩ := src_form ho5.src
  have O5 : Hid (Own W5 w.heap.size (.slice a5 n5 e5) l ∧ ∀ k, (Value.slice a5 n5 e5).ownBlock = some k → w.heap.size + 1 < k) := ⟨ho5.base (by have := T4.out.below.size; exact this), fun k hk => by have h1 := (ho5.block k hk).1; have h2 := T4.out.z.lt; omega⟩
  have d16 := T5.out.fr.c16
  have lv5 := T5.out.fr.live
  have h6 : Two w (W5.setCell ⟨w.heap.size, 16, none⟩ (.slice a5 n5 e5)) (f.vid v) (.slice a5 n5 e5) := ⟨T5.out.fr.rest _, T5.out.z.apart (by simp) _, T5.out.below.setCell (by simp) _⟩
  have ld6 := h6.fr.ld
  have st6 := h6.z.st (g := f.vid v) (y := .slice a5 n5 e5) rfl
  have HZ : Hid _ := And.intro (h6.z.set (g := f.vid v) (y := .slice a5 n5 e5)) (h6.zeroBelow (fcs (f.vid v) (.slice a5 n5 e5)))
  clear ho5 hb5 T4 S4 c16 h6 k13 k14 k15 lv l25 T2
  go_wp2
  refine bodyPost_ret (results_two Try.results17 _ _ _ _ _ _ rfl rfl HZ.out.1) rfl ?_
  refine rt_ok HE.out ?_ HZ.out.2
  refine O5.out.1.of_block fun k hk => ?_
  have := O5.out.2 k hk
  rw [setRow_other _ _ _ _ (by omega), heap_setCell_other _ _ _ _ (by simp; omega)]

theorem retag_any (f : Fr) (x : Value) (l : List Int) (v : Int) (w : World) (h : Src w x l) (hb : ∀ x ∈ l, 0 ≤ x ∧ x ≤ 255) (hf : f.ok) :
    Calls Try.prog 17 #[.agg (fcs f x), .int .i64 v] w fun r w' => RtOut f l v w r w' := by
  by_cases he : chkF f l = 0
  · cases ht : f.t
    · exact retag_plain f x l v w h hb hf he ht
    · by_cases hv : 1 ≤ v ∧ v ≤ 4094
      · exact retag_yes f x l v w h hb hf he ht hv
      · exact retag_far f x l v w h hb hf he ht hv
  · exact retag_no f x l v w h hb hf he
end Go.Proofs.Ytnkchahjdacboaa
