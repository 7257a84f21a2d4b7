/-
  TagBack: what is put is taken, and what is taken, put, is what stood there: the walk.
-/
import Derived.Test.YtmhnoggihnhenaaBackF
import Derived.Test.YtmhnoggihnhenaaLawTakes
import Derived.Deep.Cut
import Derived.Deep.DeepCutAuto
namespace Go.Proofs.Ytmhnoggihnhenaa
set_option linter.unusedVariables false
set_option linter.unusedSimpArgs false
open Go.RowKit

theorem neq27_self (p : Int) (d u : Bool) (i : Int) (a0 a1 a2 a3 a4 a5 s0 s1 s2 s3 s4 s5 : Int) (w : World) : (binOp .neq 27 (.agg #[.int .i64 p, .bool d, .bool u, .int .i64 i, .int .u8 a0, .int .u8 a1, .int .u8 a2, .int .u8 a3, .int .u8 a4, .int .u8 a5, .int .u8 s0, .int .u8 s1, .int .u8 s2, .int .u8 s3, .int .u8 s4, .int .u8 s5]) (.agg #[.int .i64 p, .bool d, .bool u, .int .i64 i, .int .u8 a0, .int .u8 a1, .int .u8 a2, .int .u8 a3, .int .u8 a4, .int .u8 a5, .int .u8 s0, .int .u8 s1, .int .u8 s2, .int .u8 s3, .int .u8 s4, .int .u8 s5])).run Try.prog w = .ok (.bool false) w := by
  have h := eq25_self 9997
  go_simp

theorem neq23_self (p : Int) (d : Bool) (v : Int) (w : World) : (binOp .neq 23 (.agg #[.int .i64 p, .bool d, .int .i64 v]) (.agg #[.int .i64 p, .bool d, .int .i64 v])).run Try.prog w = .ok (.bool false) w := by
  go_simp

def neS27 (x y : Value) : Sem Value := binOp .neq 27 x y
theorem neS27_eq (x y : Value) : binOp .neq 27 x y = neS27 x y := rfl
def neS23 (x y : Value) : Sem Value := binOp .neq 23 x y
theorem neS23_eq (x y : Value) : binOp .neq 23 x y = neS23 x y := rfl

theorem take_put (V : Value) (p v : Int) (d : Bool) (M : List Int) (w : World) (B : Nat) (h : Own w B V (tagL p d v ++ M)) (hk : tagOk p v = true) (hl : M.length ≤ 900) (hb : ∀ x ∈ M, 0 ≤ x ∧ x ≤ 255) :
    Calls Try.prog 18 #[V] w fun r w' => ∃ s, r = .returned (.tuple #[.agg #[.int .i64 p, .bool d, .int .i64 v], s, .int .i64 0]) ∧ Own w' w.heap.size s M ∧ Below w.heap.size w w' := by
  obtain ⟨e0, e1, e2, e3, e4, e5⟩ := tk_put (d := d) M hk
  have hs := h.src
  obtain ⟨a, c, rfl, h2, h3, h4, h5⟩ := hs
  refine (take_any a _ c _ w ⟨a, c, rfl, h2, h3, h4, h5⟩ (by simp [tagL]; omega) (by intro x hx; rcases List.mem_append.1 hx with h | h; exact e5 x h; exact hb x h)).mono ?_
  rintro r w' ⟨s, hr, ho, hbl⟩
  rw [e0, e1, e2, e3] at hr
  rw [e4] at ho
  exact ⟨s, hr, ho, hbl⟩

theorem takei_put (V : Value) (p : Int) (d u : Bool) (i : Int) (a0 a1 a2 a3 a4 a5 s0 s1 s2 s3 s4 s5 : Int) (M : List Int) (w : World) (B : Nat) (h : Own w B V (itagL p d u i a0 a1 a2 a3 a4 a5 s0 s1 s2 s3 s4 s5 ++ M)) (hk : itagOk p i = true) (hl : M.length ≤ 900) :
    Calls Try.prog 20 #[V] w fun r w' => ∃ s, r = .returned (.tuple #[.agg #[.int .i64 p, .bool d, .bool u, .int .i64 i, .int .u8 a0, .int .u8 a1, .int .u8 a2, .int .u8 a3, .int .u8 a4, .int .u8 a5, .int .u8 s0, .int .u8 s1, .int .u8 s2, .int .u8 s3, .int .u8 s4, .int .u8 s5], s, .int .i64 0]) ∧ Own w' w.heap.size s M ∧ Below w.heap.size w w' := by
  obtain ⟨e0, e1, e2, e3, e4, x4, x5, x6, x7, x8, x9, x10, x11, x12, x13, x14, x15, e5, e6⟩ := ti_put (d := d) (u := u) (a0 := a0) (a1 := a1) (a2 := a2) (a3 := a3) (a4 := a4) (a5 := a5) (s0 := s0) (s1 := s1) (s2 := s2) (s3 := s3) (s4 := s4) (s5 := s5) M hk
  have hs := h.src
  obtain ⟨a, c, rfl, h2, h3, h4, h5⟩ := hs
  refine (takei_four a _ c _ w ⟨a, c, rfl, h2, h3, h4, h5⟩ (by simp [itagL]; omega) e6).mono ?_
  rintro r w' ⟨s, hr, ho, hbl⟩
  rw [e0, e1, e2, e3, e4, x4, x5, x6, x7, x8, x9, x10, x11, x12, x13, x14, x15] at hr
  rw [e5] at ho
  exact ⟨s, hr, ho, hbl⟩

theorem step_app' {w : World} {ops : Array Oper} {o : Oper} {a : Act} {K : Act → World → Prop} {Q : Exit → Act → World → Prop} {E : Prop} (s x : Operand) (hw : Region.wanted o (yielded ops a.tmps) = true)
    (ho : o.op = .call { callee := .builtin .append, args := #[s, x], argTypes := #[28, 28] })
    {B : Nat} {v u : Value} {l m : List Int} (hs : a.eval s = v) (hx : a.eval x = u) (hown : Own w B v l) (hsrc : Src w u m) (hlen : l.length + m.length ≤ 100000) (hB : B ≤ w.heap.size)
    (h : ∀ v' w', Own w' B v' (l ++ m) → w.grownBy w' v.ownBlock → (v'.ownBlock = v.ownBlock ∨ v'.ownBlock = some w.heap.size) → K (a.put o.dst v') w') :
    if Region.wanted o (yielded ops a.tmps) = true then Oper.wp Try.prog o a w K Q else E := by
  rw [if_pos hw]
  exact wp_app s x ho hs hx hown hsrc hlen hB h

attribute [local go_sem ↓] ldS27_eq stS27_eq neS23_eq neS27_eq

set_option maxRecDepth 20000 in
set_option maxHeartbeats 2000000 in
theorem TagBack_walk (p v : Int) (d : Bool) (q : Int) (f u : Bool) (i : Int) (a0 a1 a2 a3 a4 a5 s0 s1 s2 s3 s4 s5 : Int) (am : Option Addr) (nm cm : Nat) (lm : List Int) (ab : Option Addr) (nb cb : Nat) (lb : List Int) (w : World) (fm : Src w (.slice am nm cm) lm) (gm : ∀ x ∈ lm, 0 ≤ x ∧ x ≤ 255) (fb : Src w (.slice ab nb cb) lb) (gb : ∀ x ∈ lb, 0 ≤ x ∧ x ≤ 255) :
    Calls Try.prog 6 #[.agg #[.int .i64 p, .bool d, .int .i64 v], .agg #[.int .i64 q, .bool f, .bool u, .int .i64 i, .int .u8 a0, .int .u8 a1, .int .u8 a2, .int .u8 a3, .int .u8 a4, .int .u8 a5, .int .u8 s0, .int .u8 s1, .int .u8 s2, .int .u8 s3, .int .u8 s4, .int .u8 s5], .slice am nm cm, .slice ab nb cb] w fun r w' => r = .returned (.bool true) ∧ Below w.heap.size w w' := by
  obtain ⟨M, hM⟩ : ∃ L, lm.take 400 = L := ⟨_, rfl⟩
  obtain ⟨B, hB⟩ : ∃ L, lb.take 400 = L := ⟨_, rfl⟩
  have HL : Hid (M.length ≤ 900 ∧ B.length ≤ 900 ∧ (∀ x ∈ M, 0 ≤ x ∧ x ≤ 255) ∧ ∀ x ∈ B, 0 ≤ x ∧ x ≤ 255) := by
    refine ⟨by rw [← hM]; simp; omega, by rw [← hB]; simp; omega, ?_, ?_⟩
    · rw [← hM]; intro x hx; exact gm x (List.mem_of_mem_take hx)
    · rw [← hB]; intro x hx; exact gb x (List.mem_of_mem_take hx)
  have B0 : Below w.heap.size w ((w.alloc (.cells #[.int .i64 p, .bool d, .int .i64 v] 23)).alloc (.cells #[.int .i64 q, .bool f, .bool u, .int .i64 i, .int .u8 a0, .int .u8 a1, .int .u8 a2, .int .u8 a3, .int .u8 a4, .int .u8 a5, .int .u8 s0, .int .u8 s1, .int .u8 s2, .int .u8 s3, .int .u8 s4, .int .u8 s5] 27)) := ((Below.refl _ _).alloc (Nat.le_refl _) _).alloc (by simp) _
  have FM : Hid (Src ((w.alloc (.cells #[.int .i64 p, .bool d, .int .i64 v] 23)).alloc (.cells #[.int .i64 q, .bool f, .bool u, .int .i64 i, .int .u8 a0, .int .u8 a1, .int .u8 a2, .int .u8 a3, .int .u8 a4, .int .u8 a5, .int .u8 s0, .int .u8 s1, .int .u8 s2, .int .u8 s3, .int .u8 s4, .int .u8 s5] 27)) (.slice am nm cm) lm) := fm.below B0
  have FB : Hid (Src ((w.alloc (.cells #[.int .i64 p, .bool d, .int .i64 v] 23)).alloc (.cells #[.int .i64 q, .bool f, .bool u, .int .i64 i, .int .u8 a0, .int .u8 a1, .int .u8 a2, .int .u8 a3, .int .u8 a4, .int .u8 a5, .int .u8 s0, .int .u8 s1, .int .u8 s2, .int .u8 s3, .int .u8 s4, .int .u8 s5] 27)) (.slice ab nb cb) lb) := fb.below B0
  have K4 : Hid (((w.alloc (.cells #[.int .i64 p, .bool d, .int .i64 v] 23)).alloc (.cells #[.int .i64 q, .bool f, .bool u, .int .i64 i, .int .u8 a0, .int .u8 a1, .int .u8 a2, .int .u8 a3, .int .u8 a4, .int .u8 a5, .int .u8 s0, .int .u8 s1, .int .u8 s2, .int .u8 s3, .int .u8 s4, .int .u8 s5] 27)).heap[w.heap.size]? = some (.cells #[.int .i64 p, .bool d, .int .i64 v] 23 (0, 0))) := heap_alloc2_old w _ _
  have K5 : Hid (((w.alloc (.cells #[.int .i64 p, .bool d, .int .i64 v] 23)).alloc (.cells #[.int .i64 q, .bool f, .bool u, .int .i64 i, .int .u8 a0, .int .u8 a1, .int .u8 a2, .int .u8 a3, .int .u8 a4, .int .u8 a5, .int .u8 s0, .int .u8 s1, .int .u8 s2, .int .u8 s3, .int .u8 s4, .int .u8 s5] 27)).heap[w.heap.size + 1]? = some (.cells #[.int .i64 q, .bool f, .bool u, .int .i64 i, .int .u8 a0, .int .u8 a1, .int .u8 a2, .int .u8 a3, .int .u8 a4, .int .u8 a5, .int .u8 s0, .int .u8 s1, .int .u8 s2, .int .u8 s3, .int .u8 s4, .int .u8 s5] 27 (0, 0))) := heap_alloc2_new w _ _
  have BW : Hid (Below w.heap.size w ((w.alloc (.cells #[.int .i64 p, .bool d, .int .i64 v] 23)).alloc (.cells #[.int .i64 q, .bool f, .bool u, .int .i64 i, .int .u8 a0, .int .u8 a1, .int .u8 a2, .int .u8 a3, .int .u8 a4, .int .u8 a5, .int .u8 s0, .int .u8 s1, .int .u8 s2, .int .u8 s3, .int .u8 s4, .int .u8 s5] 27))) := B0
  clear fm fb gm gb B0
  go_enter Try.func6, Try.ntmps6
  go_wp2_with fail
  obtain ⟨W0, hW0⟩ : ∃ W0, (w.alloc (.cells #[.int .i64 p, .bool d, .int .i64 v] 23)).alloc (.cells #[.int .i64 q, .bool f, .bool u, .int .i64 i, .int .u8 a0, .int .u8 a1, .int .u8 a2, .int .u8 a3, .int .u8 a4, .int .u8 a5, .int .u8 s0, .int .u8 s1, .int .u8 s2, .int .u8 s3, .int .u8 s4, .int .u8 s5] 27) = W0 := ⟨_, rfl⟩
  rw [hW0] at FM FB K4 K5 BW ⊢
  clear hW0
  refine (cut_any am nm cm lm _ FM.out).mono ?_
  rintro _ z0 ⟨mm, rfl, hz0, hSM⟩
  rw [hz0]
  rw [hM] at hSM
  have SM : Hid (Src W0 (.slice am mm cm) M) := hSM
  clear hSM hM FM hz0
  go_wp2_with fail
  refine (cut_any ab nb cb lb _ FB.out).mono ?_
  rintro _ z1 ⟨mb, rfl, hz1, hSB⟩
  rw [hz1]
  rw [hB] at hSB
  have SB : Hid (Src W0 (.slice ab mb cb) B) := hSB
  clear hSB hB FB hz1
  have k40 := cell3_0 K4.out
  have k41 := cell3_1 K4.out
  have k42 := cell3_2 K4.out
  go_wp2_with fail
  refine (put_any p v d _).mono ?_
  rintro _ w1 ⟨sl1, rfl, hs1, hb1⟩
  have R1 : Hid (Src w1 sl1 (putL p d v)) := hs1
  have B1 : Hid (Below W0.heap.size W0 w1) := hb1
  clear hs1 hb1 k40 k41 k42
  go_upto_if 39 with (fail)
  go_cut [] from 9 (fun wc => Below W0.heap.size W0 wc)
  case first =>
    cases hk : tagOk p v
    · have hc : chk (tagOk p v) = 20 := by rw [hk]; rfl
      go_wp2
      go_meet
      case rel => exact B1.out
    · have hc : chk (tagOk p v) = 0 := by rw [hk]; rfl
      have R1' : Hid (Src (w1.alloc (.cells #[] 5)) sl1 (tagL p d v)) := by
        have := R1.out
        unfold putL at this
        rw [hk] at this
        exact this.below ((Below.refl _ _).alloc (Nat.le_refl _) _)
      have hO : Hid (Own (w1.alloc (.cells #[] 5)) w1.heap.size (.slice (some ⟨w1.heap.size, 0, none⟩) 0 0) []) := own_empty w1 _ (Nat.le_refl _)
      have HK : Hid (tagOk p v = true) := hk
      clear R1 hk
      go_wp2_with (at_builtin; refine wpList_app rfl (.tmp 41) (.tmp 42) rfl (by rfl) (by rfl) hO.out R1'.out (by simp [tagL]) (by simp) ?_)
      intro v2 w2 ho2 hg2 _
      have B2 : Hid (Below W0.heap.size W0 w2) := below_over B1.out (((Below.refl _ _).alloc (Nat.le_refl _) _).trans (grown_below hO.out hg2 (by simp)))
      have hw2 : w1.heap.size ≤ w2.heap.size := by have := hg2.size; simp at this; omega
      have O2 : Hid (Own w2 w1.heap.size v2 (tagL p d v)) := ho2
      clear ho2 hg2 hO R1'
      go_wp2_with (at_builtin; refine wpList_app rfl (.tmp 43) (.tmp 44) rfl (by rfl) (by rfl) O2.out (SM.out.below B2.out) (by have := HL.out.1; simp [tagL]; omega) hw2 ?_)
      intro v3 w3 ho3 hg3 _
      have B3 : Hid (Below W0.heap.size W0 w3) := B2.out.trans ((grown_below O2.out hg3 hw2).mono B1.out.size)
      have O3 : Hid (Own w3 w1.heap.size v3 (tagL p d v ++ M)) := ho3
      clear ho3 hg3 O2 B2 hw2
      go_wp2_with fail
      refine (take_put _ p v d M _ _ O3.out HK.out HL.out.1 HL.out.2.2.1).mono ?_
      rintro _ w4 ⟨sl4, rfl, ho4, hb4⟩
      have hb4' := hb4.alloc hb4.size (.cells #[.int .i64 p, .bool d, .int .i64 v] 23)
      have B4 : Hid (Below W0.heap.size W0 (w4.alloc (.cells #[.int .i64 p, .bool d, .int .i64 v] 23))) := below_over B3.out hb4'
      have q4 := (ho4.src.below ((Below.refl _ _).alloc (Nat.le_refl _) (.cells #[.int .i64 p, .bool d, .int .i64 v] 23))).string
      have qm := (SM.out.below B4.out).string
      have K4' := (B4.out.block _ (lt_of_block K4.out)).trans K4.out
      have k40 := cell3_0 K4'
      have k41 := cell3_1 K4'
      have k42 := cell3_2 K4'
      have qn : ∀ W, (neS23 (.agg #[.int .i64 p, .bool d, .int .i64 v]) (.agg #[.int .i64 p, .bool d, .int .i64 v])).run Try.prog W = .ok (.bool false) W := fun W => neq23_self _ _ _ W
      clear ho4 hb4 hb4' K4' O3 B3
      go_wp2
      go_meet
      case rel => exact B4.out
  case rest =>
    have Bc : Hid (Below W0.heap.size W0 wc) := hcut
    clear hcut B1 R1 w1 sl1
    have l5 := loadrow27 ((Bc.out.block _ (lt_of_block K5.out)).trans K5.out) rfl
    go_wp2_with fail
    refine (puti_any q f u i a0 a1 a2 a3 a4 a5 s0 s1 s2 s3 s4 s5 _).mono ?_
    rintro _ w1 ⟨sl1, rfl, hs1, hb1⟩
    have R1 : Hid (Src w1 sl1 (putiL q f u i a0 a1 a2 a3 a4 a5 s0 s1 s2 s3 s4 s5)) := hs1
    have B1 : Hid (Below W0.heap.size W0 w1) := below_over Bc.out hb1
    clear hs1 hb1 l5
    go_upto_if 70 with (fail)
    go_cut [] from 9 (fun wd => Below W0.heap.size W0 wd)
    case first =>
      cases hk : itagOk q i
      · have hc : chk (itagOk q i) = 20 := by rw [hk]; rfl
        go_wp2
        go_meet
        case rel => exact B1.out
      · have hc : chk (itagOk q i) = 0 := by rw [hk]; rfl
        have R1' : Hid (Src (w1.alloc (.cells #[] 5)) sl1 (itagL q f u i a0 a1 a2 a3 a4 a5 s0 s1 s2 s3 s4 s5)) := by
          have := R1.out
          unfold putiL at this
          rw [hk] at this
          exact this.below ((Below.refl _ _).alloc (Nat.le_refl _) _)
        have hO : Hid (Own (w1.alloc (.cells #[] 5)) w1.heap.size (.slice (some ⟨w1.heap.size, 0, none⟩) 0 0) []) := own_empty w1 _ (Nat.le_refl _)
        have HK : Hid (itagOk q i = true) := hk
        clear R1 hk
        go_wp2_with (at_builtin; refine wpList_app rfl (.tmp 72) (.tmp 73) rfl (by rfl) (by rfl) hO.out R1'.out (by simp [itagL]) (by simp) ?_)
        intro v2 w2 ho2 hg2 _
        have B2 : Hid (Below W0.heap.size W0 w2) := below_over B1.out (((Below.refl _ _).alloc (Nat.le_refl _) _).trans (grown_below hO.out hg2 (by simp)))
        have hw2 : w1.heap.size ≤ w2.heap.size := by have := hg2.size; simp at this; omega
        have O2 : Hid (Own w2 w1.heap.size v2 (itagL q f u i a0 a1 a2 a3 a4 a5 s0 s1 s2 s3 s4 s5)) := ho2
        clear ho2 hg2 hO R1'
        go_wp2_with (at_builtin; refine wpList_app rfl (.tmp 74) (.tmp 75) rfl (by rfl) (by rfl) O2.out (SM.out.below B2.out) (by have := HL.out.1; simp [itagL]; omega) hw2 ?_)
        intro v3 w3 ho3 hg3 _
        have B3 : Hid (Below W0.heap.size W0 w3) := B2.out.trans ((grown_below O2.out hg3 hw2).mono B1.out.size)
        have O3 : Hid (Own w3 w1.heap.size v3 (itagL q f u i a0 a1 a2 a3 a4 a5 s0 s1 s2 s3 s4 s5 ++ M)) := ho3
        clear ho3 hg3 O2 B2 hw2
        go_wp2_with fail
        refine (takei_put _ q f u i a0 a1 a2 a3 a4 a5 s0 s1 s2 s3 s4 s5 M _ _ O3.out HK.out HL.out.1).mono ?_
        rintro _ w4 ⟨sl4, rfl, ho4, hb4⟩
        obtain ⟨W4, hst4, b4, k16⟩ := store_new27 w4 #[.int .i64 q, .bool f, .bool u, .int .i64 i, .int .u8 a0, .int .u8 a1, .int .u8 a2, .int .u8 a3, .int .u8 a4, .int .u8 a5, .int .u8 s0, .int .u8 s1, .int .u8 s2, .int .u8 s3, .int .u8 s4, .int .u8 s5] rfl (by simp [Value.oneCell'])
        have hb4' := below_over hb4 b4
        have B4 : Hid (Below W0.heap.size W0 W4) := below_over B3.out hb4'
        have q4 := (ho4.src.below b4).string
        have qm := (SM.out.below B4.out).string
        have l16 := loadrow27 k16 rfl
        have l5 := loadrow27 ((B4.out.block _ (lt_of_block K5.out)).trans K5.out) rfl
        have qn : ∀ W, (neS27 (.agg #[.int .i64 q, .bool f, .bool u, .int .i64 i, .int .u8 a0, .int .u8 a1, .int .u8 a2, .int .u8 a3, .int .u8 a4, .int .u8 a5, .int .u8 s0, .int .u8 s1, .int .u8 s2, .int .u8 s3, .int .u8 s4, .int .u8 s5]) (.agg #[.int .i64 q, .bool f, .bool u, .int .i64 i, .int .u8 a0, .int .u8 a1, .int .u8 a2, .int .u8 a3, .int .u8 a4, .int .u8 a5, .int .u8 s0, .int .u8 s1, .int .u8 s2, .int .u8 s3, .int .u8 s4, .int .u8 s5])).run Try.prog W = .ok (.bool false) W := fun W => neq27_self _ _ _ _ _ _ _ _ _ _ _ _ _ _ _ _  W
        clear ho4 hb4 hb4' b4 k16 O3 B3
        go_wp2
        go_meet
        case rel => exact B4.out
    case rest =>
      have Bd : Hid (Below W0.heap.size W0 wc) := hcut
      clear hcut B1 R1 w1 sl1 Bc
      go_wp2_with fail
      refine (take_any ab mb cb B _ (SB.out.below Bd.out) (by have := HL.out.2.1; omega) HL.out.2.2.2).mono ?_
      rintro _ w1 ⟨sl1, rfl, ho1, hb1⟩
      have hb1' := hb1.alloc hb1.size (.cells #[.int .i64 (tkP B), .bool (tkD B), .int .i64 (tkV B)] 23)
      have B1 : Hid (Below W0.heap.size W0 (w1.alloc (.cells #[.int .i64 (tkP B), .bool (tkD B), .int .i64 (tkV B)] 23))) := below_over Bd.out hb1'
      have R1 : Hid (Src (w1.alloc (.cells #[.int .i64 (tkP B), .bool (tkD B), .int .i64 (tkV B)] 23)) sl1 (tkR B)) := ho1.src.below ((Below.refl _ _).alloc (Nat.le_refl _) _)
      clear ho1 hb1 hb1'
      go_upto_if 102 with (fail)
      go_cut [] from 9 (fun we => Below W0.heap.size W0 we)
      case first =>
        by_cases hk : tkE B = 0
        · obtain ⟨t1, t2⟩ := tk_back hk HL.out.2.2.2
          have T1 : Hid (tagOk (tkP B) (tkV B) = true) := t1
          have T2 : Hid (tagL (tkP B) (tkD B) (tkV B) ++ tkR B = B) := t2
          clear t1 t2
          go_wp2_with fail
          refine (put_yes _ _ _ _ T1.out).mono ?_
          rintro _ w2 ⟨z2, rfl, ho2, hb2⟩
          have B2 : Hid (Below W0.heap.size W0 w2) := below_over B1.out hb2
          have hs2 : (w1.alloc (.cells #[.int .i64 (tkP B), .bool (tkD B), .int .i64 (tkV B)] 23)).heap.size ≤ w2.heap.size := hb2.size
          have O2 : Hid (Own w2.drew (w1.alloc (.cells #[.int .i64 (tkP B), .bool (tkD B), .int .i64 (tkV B)] 23)).heap.size z2 (tagL (tkP B) (tkD B) (tkV B))) := ho2
          have R2 : Hid (Src w2.drew sl1 (tkR B)) := R1.out.below hb2.drew
          have hln : (tagL (tkP B) (tkD B) (tkV B)).length + (tkR B).length ≤ 100000 := by
            have := congrArg List.length T2.out
            have h9 := HL.out.2.1
            rw [List.length_append] at this
            omega
          have qb := (SB.out.below B2.out.drew).string
          clear ho2 hb2 R1
          go_wp2
          have hp2 : Hid (Below W0.heap.size W0 w2.drew) := B2.out.drew
          refine wp_region_noPanic ?_
          refine wp_region_held_drew (S := fun w' => (convert 28 9 (.slice ab mb cb)).run Try.prog w' = .ok (.string (bs B)) w') (by kernel_rfl) ?_ (fun hHeld => ?_)
          · exact qb
          refine wpAnyH_take (i := 0) (oi := { dst := some 108, op := Op.move (Operand.tmp 23), type := 29, pos := "law.go:78", after := #[], guard := none }) (v := ?_) rfl (by kernel_rfl) (by kernel_rfl) (by kernel_rfl) (fun _ _ _ h => h) (Or.inl ⟨by rfl, ?_⟩) (by assumption) ?_
          rotate_left
          · intro w hSw
            try dsimp only at hSw
            first | (go_simp; done) | (go_simp; with_reducible rfl)
          rotate_left
          try simp only [Act.put, List.setIfInBounds_toArray, List.set_cons_zero, List.set_cons_succ]
          refine wpAnyH_take (i := 1) (oi := { dst := some 109, op := Op.binOp BinOp.neq 29 (Operand.tmp 108) (Operand.const (Value.int IntKind.i64 0)) 29, type := 4, pos := "law.go:78", after := #[{ on := 0, ground := Ground.data }], guard := none }) (v := ?_) rfl (by kernel_rfl) (by kernel_rfl) (by kernel_rfl) (fun _ _ _ h => h) (Or.inl ⟨by rfl, ?_⟩) (by assumption) ?_
          rotate_left
          · intro w hSw
            try dsimp only at hSw
            first | (go_simp; done) | (go_simp; with_reducible rfl)
          rotate_left
          try simp only [Act.put, List.setIfInBounds_toArray, List.set_cons_zero, List.set_cons_succ]
          refine wpAnyH_take (i := 2) (oi := { dst := some 110, op := Op.move (Operand.tmp 109), type := 4, pos := "law.go:78", after := #[{ on := 1, ground := Ground.data }], guard := none }) (v := ?_) rfl (by kernel_rfl) (by kernel_rfl) (by kernel_rfl) (fun _ _ _ h => h) (Or.inl ⟨by rfl, ?_⟩) (by assumption) ?_
          rotate_left
          · intro w hSw
            try dsimp only at hSw
            first | (go_simp; done) | (go_simp; with_reducible rfl)
          rotate_left
          try simp only [Act.put, List.setIfInBounds_toArray, List.set_cons_zero, List.set_cons_succ]
          refine wpAnyH_take (i := 3) (oi := { dst := some 111, op := Op.move (Operand.tmp 22), type := 28, pos := "law.go:78", after := #[{ on := 2, ground := Ground.guard }], guard := some (2, false) }) (v := ?_) rfl (by kernel_rfl) (by kernel_rfl) (by kernel_rfl) (fun _ _ _ h => h) (Or.inl ⟨by rfl, ?_⟩) (by assumption) ?_
          rotate_left
          · intro w hSw
            try dsimp only at hSw
            first | (go_simp; done) | (go_simp; with_reducible rfl)
          rotate_left
          try simp only [Act.put, List.setIfInBounds_toArray, List.set_cons_zero, List.set_cons_succ]
          refine wpAnyH_take (i := 4) (oi := { dst := some 112, op := Op.move (Operand.tmp 20), type := 28, pos := "law.go:78", after := #[{ on := 2, ground := Ground.guard }], guard := some (2, false) }) (v := ?_) rfl (by kernel_rfl) (by kernel_rfl) (by kernel_rfl) (fun _ _ _ h => h) (Or.inl ⟨by rfl, ?_⟩) (by assumption) ?_
          rotate_left
          · intro w hSw
            try dsimp only at hSw
            first | (go_simp; done) | (go_simp; with_reducible rfl)
          rotate_left
          try simp only [Act.put, List.setIfInBounds_toArray, List.set_cons_zero, List.set_cons_succ]
          refine wpAnyH_take (i := 7) (oi := { dst := some 115, op := Op.move (Operand.tmp 3), type := 28, pos := "law.go:78", after := #[{ on := 2, ground := Ground.guard }], guard := some (2, false) }) (v := ?_) rfl (by kernel_rfl) (by kernel_rfl) (by kernel_rfl) (fun _ _ _ h => h) (Or.inl ⟨by rfl, ?_⟩) (by assumption) ?_
          rotate_left
          · intro w hSw
            try dsimp only at hSw
            first | (go_simp; done) | (go_simp; with_reducible rfl)
          rotate_left
          try simp only [Act.put, List.setIfInBounds_toArray, List.set_cons_zero, List.set_cons_succ]
          refine wpAnyH_take (i := 8) (oi := { dst := some 116, op := Op.convert 28 9 (Operand.tmp 115), type := 9, pos := "law.go:78", after := #[{ on := 7, ground := Ground.data }, { on := 2, ground := Ground.guard }], guard := some (2, false) }) (v := ?_) rfl (by kernel_rfl) (by kernel_rfl) (by kernel_rfl) (fun _ _ _ h => h) (Or.inl ⟨by rfl, ?_⟩) (by assumption) ?_
          rotate_left
          · intro w hSw
            try dsimp only at hSw
            first | (go_simp; done) | (go_simp; with_reducible rfl)
          rotate_left
          try simp only [Act.put, List.setIfInBounds_toArray, List.set_cons_zero, List.set_cons_succ]
          refine wpAnyH_ready (rs := [5]) (by kernel_rfl) (by simp) ?_
          refine AllReadyH.cons (o := { dst := some 113, op := Op.call { callee := Callee.builtin Builtin.append, args := #[Operand.tmp 111, Operand.tmp 112], argTypes := #[28, 28] }, type := 28, pos := "law.go:78", after := #[{ on := 3, ground := Ground.data }, { on := 4, ground := Ground.data }, { on := 2, ground := Ground.chain }, { on := 2, ground := Ground.guard }], guard := some (2, false) }) rfl (fun K hK => ?_) AllReadyH.nil
          refine step_app' _ _ (by go_simp) (by rfl) (by rfl) (by rfl) O2.out R2.out hln hs2 ?_
          intro v3 w3 ho3 hg3 _
          have B3 := hp2.out.trans ((grown_below O2.out hg3 hs2).mono (B1.out.size))
          have q3 : (convert 28 9 v3).run Try.prog w3 = .ok (.string (bs B)) w3 := (by rw [T2.out] at ho3; exact ho3.src.string)
          have qb3 := (SB.out.below B3).string
          refine hK.out _ _ ?_ (fun hHeld => ?_)
          · exact qb3
          clear hK K
          try simp only [Act.put, List.setIfInBounds_toArray, List.set_cons_zero, List.set_cons_succ]
          refine wpAnyH_ready (rs := [6]) (by kernel_rfl) (by simp) ?_
          refine AllReadyH.cons (o := { dst := some 114, op := Op.convert 28 9 (Operand.tmp 113), type := 9, pos := "law.go:78", after := #[{ on := 5, ground := Ground.data }, { on := 2, ground := Ground.guard }], guard := some (2, false) }) rfl (fun K hK => ?_) AllReadyH.nil
          go_simp
          refine hK.out _ _ ?_ (fun hHeld => ?_)
          · exact qb3
          clear hK K
          try simp only [Act.put, List.setIfInBounds_toArray, List.set_cons_zero, List.set_cons_succ]
          refine wpAnyH_take (i := 9) (oi := { dst := some 117, op := Op.binOp BinOp.neq 9 (Operand.tmp 114) (Operand.tmp 116) 9, type := 4, pos := "law.go:78", after := #[{ on := 6, ground := Ground.data }, { on := 8, ground := Ground.data }, { on := 2, ground := Ground.guard }], guard := some (2, false) }) (v := ?_) rfl (by kernel_rfl) (by kernel_rfl) (by kernel_rfl) (fun _ _ _ h => h) (Or.inl ⟨by rfl, ?_⟩) (by assumption) ?_
          rotate_left
          · intro w hSw
            try dsimp only at hSw
            first | (go_simp; done) | (go_simp; with_reducible rfl)
          rotate_left
          try simp only [Act.put, List.setIfInBounds_toArray, List.set_cons_zero, List.set_cons_succ]
          refine wpAnyH_take (i := 10) (oi := { dst := some 118, op := Op.pick (Operand.tmp 110) (Operand.const (Value.bool true)) (Operand.tmp 117), type := 4, pos := "law.go:78", after := #[{ on := 2, ground := Ground.data }, { on := 9, ground := Ground.data }], guard := none }) (v := ?_) rfl (by kernel_rfl) (by kernel_rfl) (by kernel_rfl) (fun _ _ _ h => h) (Or.inl ⟨by rfl, ?_⟩) (by assumption) ?_
          rotate_left
          · intro w hSw
            try dsimp only at hSw
            first | (go_simp; done) | (go_simp; with_reducible rfl)
          rotate_left
          try simp only [Act.put, List.setIfInBounds_toArray, List.set_cons_zero, List.set_cons_succ]
          refine wpAnyH_done (by kernel_rfl) ?_ _
          refine NoPanic.normal ?_
          have HB3 : Hid (Below W0.heap.size W0 w3) := B3
          clear hHeld B3 ho3 hg3 q3 qb3 O2 R2 qb
          go_wp2
          go_meet
          case rel => exact HB3.out
        · have hk' : (tkE B == 0) = false := by simpa using hk
          go_wp2
          go_meet
          case rel => exact B1.out
      case rest =>
        have Be : Hid (Below W0.heap.size W0 wc) := hcut
        clear hcut B1 R1 w1 sl1 Bd
        go_wp2_with fail
        refine (takei_any ab mb cb B _ (SB.out.below Be.out) (by have := HL.out.2.1; omega) HL.out.2.2.2).mono ?_
        rintro _ w1 ⟨sl1, rfl, ho1, hb1⟩
        obtain ⟨W1, hst1, b1, k24⟩ := store_new27 w1 #[.int .i64 (tiP B), .bool (tiD B), .bool (tiU B), .int .i64 (tiI B), .int .u8 (tiX B 4), .int .u8 (tiX B 5), .int .u8 (tiX B 6), .int .u8 (tiX B 7), .int .u8 (tiX B 8), .int .u8 (tiX B 9), .int .u8 (tiX B 10), .int .u8 (tiX B 11), .int .u8 (tiX B 12), .int .u8 (tiX B 13), .int .u8 (tiX B 14), .int .u8 (tiX B 15)] rfl (by simp [Value.oneCell'])
        have hb1' := below_over hb1 b1
        have B1 : Hid (Below W0.heap.size W0 W1) := below_over Be.out hb1'
        have R1 : Hid (Src W1 sl1 (tiR B)) := ho1.src.below b1
        have l24 := loadrow27 k24 rfl
        clear ho1 hb1 hb1' b1 k24
        by_cases hk : tiE B = 0
        · obtain ⟨t1, t2⟩ := ti_back hk HL.out.2.2.2
          have T1 : Hid (itagOk (tiP B) (tiI B) = true) := t1
          have T2 : Hid (itagL (tiP B) (tiD B) (tiU B) (tiI B) (tiX B 4) (tiX B 5) (tiX B 6) (tiX B 7) (tiX B 8) (tiX B 9) (tiX B 10) (tiX B 11) (tiX B 12) (tiX B 13) (tiX B 14) (tiX B 15) ++ tiR B = B) := t2
          clear t1 t2
          go_wp2_with fail
          refine (puti_yes _ _ _ _ _ _ _ _ _ _ _ _ _ _ _ _  _ T1.out).mono ?_
          rintro _ w2 ⟨z2, rfl, ho2, hb2⟩
          have B2 : Hid (Below W0.heap.size W0 w2) := below_over B1.out hb2
          have hs2 : W1.heap.size ≤ w2.heap.size := hb2.size
          have O2 : Hid (Own w2.drew W1.heap.size z2 (itagL (tiP B) (tiD B) (tiU B) (tiI B) (tiX B 4) (tiX B 5) (tiX B 6) (tiX B 7) (tiX B 8) (tiX B 9) (tiX B 10) (tiX B 11) (tiX B 12) (tiX B 13) (tiX B 14) (tiX B 15))) := ho2
          have R2 : Hid (Src w2.drew sl1 (tiR B)) := R1.out.below hb2.drew
          have hln : (itagL (tiP B) (tiD B) (tiU B) (tiI B) (tiX B 4) (tiX B 5) (tiX B 6) (tiX B 7) (tiX B 8) (tiX B 9) (tiX B 10) (tiX B 11) (tiX B 12) (tiX B 13) (tiX B 14) (tiX B 15)).length + (tiR B).length ≤ 100000 := by
            have := congrArg List.length T2.out
            have h9 := HL.out.2.1
            rw [List.length_append] at this
            omega
          have qb := (SB.out.below B2.out.drew).string
          have hp2 : Hid (Below W0.heap.size W0 w2.drew) := B2.out.drew
          clear ho2 hb2 R1 l24 hst1
          go_wp2
          refine wp_region_noPanic ?_
          refine wp_region_held_drew (S := fun w' => (convert 28 9 (.slice ab mb cb)).run Try.prog w' = .ok (.string (bs B)) w') (by kernel_rfl) ?_ (fun hHeld => ?_)
          · exact qb
          refine wpAnyH_take (i := 0) (oi := { dst := some 132, op := Op.move (Operand.tmp 28), type := 29, pos := "law.go:85", after := #[], guard := none }) (v := ?_) rfl (by kernel_rfl) (by kernel_rfl) (by kernel_rfl) (fun _ _ _ h => h) (Or.inl ⟨by rfl, ?_⟩) (by assumption) ?_
          rotate_left
          · intro w hSw
            try dsimp only at hSw
            first | (go_simp; done) | (go_simp; with_reducible rfl)
          rotate_left
          try simp only [Act.put, List.setIfInBounds_toArray, List.set_cons_zero, List.set_cons_succ]
          refine wpAnyH_take (i := 1) (oi := { dst := some 133, op := Op.binOp BinOp.eql 29 (Operand.tmp 132) (Operand.const (Value.int IntKind.i64 0)) 29, type := 4, pos := "law.go:85", after := #[{ on := 0, ground := Ground.data }], guard := none }) (v := ?_) rfl (by kernel_rfl) (by kernel_rfl) (by kernel_rfl) (fun _ _ _ h => h) (Or.inl ⟨by rfl, ?_⟩) (by assumption) ?_
          rotate_left
          · intro w hSw
            try dsimp only at hSw
            first | (go_simp; done) | (go_simp; with_reducible rfl)
          rotate_left
          try simp only [Act.put, List.setIfInBounds_toArray, List.set_cons_zero, List.set_cons_succ]
          refine wpAnyH_take (i := 2) (oi := { dst := some 134, op := Op.move (Operand.tmp 133), type := 4, pos := "law.go:85", after := #[{ on := 1, ground := Ground.data }], guard := none }) (v := ?_) rfl (by kernel_rfl) (by kernel_rfl) (by kernel_rfl) (fun _ _ _ h => h) (Or.inl ⟨by rfl, ?_⟩) (by assumption) ?_
          rotate_left
          · intro w hSw
            try dsimp only at hSw
            first | (go_simp; done) | (go_simp; with_reducible rfl)
          rotate_left
          try simp only [Act.put, List.setIfInBounds_toArray, List.set_cons_zero, List.set_cons_succ]
          refine wpAnyH_take (i := 3) (oi := { dst := some 135, op := Op.move (Operand.tmp 27), type := 28, pos := "law.go:85", after := #[{ on := 2, ground := Ground.guard }], guard := some (2, true) }) (v := ?_) rfl (by kernel_rfl) (by kernel_rfl) (by kernel_rfl) (fun _ _ _ h => h) (Or.inl ⟨by rfl, ?_⟩) (by assumption) ?_
          rotate_left
          · intro w hSw
            try dsimp only at hSw
            first | (go_simp; done) | (go_simp; with_reducible rfl)
          rotate_left
          try simp only [Act.put, List.setIfInBounds_toArray, List.set_cons_zero, List.set_cons_succ]
          refine wpAnyH_take (i := 4) (oi := { dst := some 136, op := Op.move (Operand.tmp 25), type := 28, pos := "law.go:85", after := #[{ on := 2, ground := Ground.guard }], guard := some (2, true) }) (v := ?_) rfl (by kernel_rfl) (by kernel_rfl) (by kernel_rfl) (fun _ _ _ h => h) (Or.inl ⟨by rfl, ?_⟩) (by assumption) ?_
          rotate_left
          · intro w hSw
            try dsimp only at hSw
            first | (go_simp; done) | (go_simp; with_reducible rfl)
          rotate_left
          try simp only [Act.put, List.setIfInBounds_toArray, List.set_cons_zero, List.set_cons_succ]
          refine wpAnyH_take (i := 7) (oi := { dst := some 139, op := Op.move (Operand.tmp 3), type := 28, pos := "law.go:85", after := #[{ on := 2, ground := Ground.guard }], guard := some (2, true) }) (v := ?_) rfl (by kernel_rfl) (by kernel_rfl) (by kernel_rfl) (fun _ _ _ h => h) (Or.inl ⟨by rfl, ?_⟩) (by assumption) ?_
          rotate_left
          · intro w hSw
            try dsimp only at hSw
            first | (go_simp; done) | (go_simp; with_reducible rfl)
          rotate_left
          try simp only [Act.put, List.setIfInBounds_toArray, List.set_cons_zero, List.set_cons_succ]
          refine wpAnyH_take (i := 8) (oi := { dst := some 140, op := Op.convert 28 9 (Operand.tmp 139), type := 9, pos := "law.go:85", after := #[{ on := 7, ground := Ground.data }, { on := 2, ground := Ground.guard }], guard := some (2, true) }) (v := ?_) rfl (by kernel_rfl) (by kernel_rfl) (by kernel_rfl) (fun _ _ _ h => h) (Or.inl ⟨by rfl, ?_⟩) (by assumption) ?_
          rotate_left
          · intro w hSw
            try dsimp only at hSw
            first | (go_simp; done) | (go_simp; with_reducible rfl)
          rotate_left
          try simp only [Act.put, List.setIfInBounds_toArray, List.set_cons_zero, List.set_cons_succ]
          refine wpAnyH_ready (rs := [5]) (by kernel_rfl) (by simp) ?_
          refine AllReadyH.cons (o := { dst := some 137, op := Op.call { callee := Callee.builtin Builtin.append, args := #[Operand.tmp 135, Operand.tmp 136], argTypes := #[28, 28] }, type := 28, pos := "law.go:85", after := #[{ on := 3, ground := Ground.data }, { on := 4, ground := Ground.data }, { on := 2, ground := Ground.chain }, { on := 2, ground := Ground.guard }], guard := some (2, true) }) rfl (fun K hK => ?_) AllReadyH.nil
          refine step_app' _ _ (by go_simp) (by rfl) (by rfl) (by rfl) O2.out R2.out hln hs2 ?_
          intro v3 w3 ho3 hg3 _
          have B3 := hp2.out.trans ((grown_below O2.out hg3 hs2).mono (B1.out.size))
          have q3 : (convert 28 9 v3).run Try.prog w3 = .ok (.string (bs B)) w3 := (by rw [T2.out] at ho3; exact ho3.src.string)
          have qb3 := (SB.out.below B3).string
          refine hK.out _ _ ?_ (fun hHeld => ?_)
          · exact qb3
          clear hK K
          try simp only [Act.put, List.setIfInBounds_toArray, List.set_cons_zero, List.set_cons_succ]
          refine wpAnyH_ready (rs := [6]) (by kernel_rfl) (by simp) ?_
          refine AllReadyH.cons (o := { dst := some 138, op := Op.convert 28 9 (Operand.tmp 137), type := 9, pos := "law.go:85", after := #[{ on := 5, ground := Ground.data }, { on := 2, ground := Ground.guard }], guard := some (2, true) }) rfl (fun K hK => ?_) AllReadyH.nil
          go_simp
          refine hK.out _ _ ?_ (fun hHeld => ?_)
          · exact qb3
          clear hK K
          try simp only [Act.put, List.setIfInBounds_toArray, List.set_cons_zero, List.set_cons_succ]
          refine wpAnyH_take (i := 9) (oi := { dst := some 141, op := Op.binOp BinOp.eql 9 (Operand.tmp 138) (Operand.tmp 140) 9, type := 4, pos := "law.go:85", after := #[{ on := 6, ground := Ground.data }, { on := 8, ground := Ground.data }, { on := 2, ground := Ground.guard }], guard := some (2, true) }) (v := ?_) rfl (by kernel_rfl) (by kernel_rfl) (by kernel_rfl) (fun _ _ _ h => h) (Or.inl ⟨by rfl, ?_⟩) (by assumption) ?_
          rotate_left
          · intro w hSw
            try dsimp only at hSw
            first | (go_simp; done) | (go_simp; with_reducible rfl)
          rotate_left
          try simp only [Act.put, List.setIfInBounds_toArray, List.set_cons_zero, List.set_cons_succ]
          refine wpAnyH_take (i := 10) (oi := { dst := some 142, op := Op.pick (Operand.tmp 134) (Operand.tmp 141) (Operand.const (Value.bool false)), type := 4, pos := "law.go:85", after := #[{ on := 2, ground := Ground.data }, { on := 9, ground := Ground.data }], guard := none }) (v := ?_) rfl (by kernel_rfl) (by kernel_rfl) (by kernel_rfl) (fun _ _ _ h => h) (Or.inl ⟨by rfl, ?_⟩) (by assumption) ?_
          rotate_left
          · intro w hSw
            try dsimp only at hSw
            first | (go_simp; done) | (go_simp; with_reducible rfl)
          rotate_left
          try simp only [Act.put, List.setIfInBounds_toArray, List.set_cons_zero, List.set_cons_succ]
          refine wpAnyH_take (i := 11) (oi := { dst := some 143, op := Op.move (Operand.tmp 142), type := 4, pos := "law.go:85", after := #[{ on := 10, ground := Ground.data }, { on := 5, ground := Ground.chain }], guard := none }) (v := ?_) rfl (by kernel_rfl) (by kernel_rfl) (by kernel_rfl) (fun _ _ _ h => h) (Or.inl ⟨by rfl, ?_⟩) (by assumption) ?_
          rotate_left
          · intro w hSw
            try dsimp only at hSw
            first | (go_simp; done) | (go_simp; with_reducible rfl)
          rotate_left
          try simp only [Act.put, List.setIfInBounds_toArray, List.set_cons_zero, List.set_cons_succ]
          refine wpAnyH_ready (rs := [12]) (by kernel_rfl) (by simp) ?_
          refine AllReadyH.cons (o := { dst := some 144, op := Op.call { callee := Callee.value (Operand.func 16), args := #[], argTypes := #[] }, type := 4, pos := "law.go:85", after := #[{ on := 11, ground := Ground.chain }, { on := 11, ground := Ground.guard }], guard := some (11, true) }) rfl (fun K hK => ?_) AllReadyH.nil
          go_simp
          refine Calls.on_later (awake_any _) ?_
          intro y9
          have qb9 := (SB.out.below (below_over B3 y9.below)).string
          go_wp2_with fail
          refine hK.out _ _ ?_ (fun hHeld => ?_)
          · exact qb9
          clear hK K
          try simp only [Act.put, List.setIfInBounds_toArray, List.set_cons_zero, List.set_cons_succ]
          refine wpAnyH_take (i := 13) (oi := { dst := some 145, op := Op.pick (Operand.tmp 143) (Operand.tmp 144) (Operand.const (Value.bool false)), type := 4, pos := "law.go:85", after := #[{ on := 11, ground := Ground.data }, { on := 12, ground := Ground.data }], guard := none }) (v := ?_) rfl (by kernel_rfl) (by kernel_rfl) (by kernel_rfl) (fun _ _ _ h => h) (Or.inl ⟨by rfl, ?_⟩) (by assumption) ?_
          rotate_left
          · intro w hSw
            try dsimp only at hSw
            first | (go_simp; done) | (go_simp; with_reducible rfl)
          rotate_left
          try simp only [Act.put, List.setIfInBounds_toArray, List.set_cons_zero, List.set_cons_succ]
          refine wpAnyH_take (i := 14) (oi := { dst := some 8, op := Op.assign (Operand.tmp 145), type := 4, pos := "law.go:85", after := #[{ on := 13, ground := Ground.data }, { on := 12, ground := Ground.chain }, { on := 0, ground := Ground.phase }, { on := 1, ground := Ground.phase }, { on := 2, ground := Ground.phase }, { on := 3, ground := Ground.phase }, { on := 4, ground := Ground.phase }, { on := 5, ground := Ground.phase }, { on := 6, ground := Ground.phase }, { on := 7, ground := Ground.phase }, { on := 8, ground := Ground.phase }, { on := 9, ground := Ground.phase }, { on := 10, ground := Ground.phase }, { on := 11, ground := Ground.phase }, { on := 12, ground := Ground.phase }, { on := 13, ground := Ground.phase }], guard := none }) (v := ?_) rfl (by kernel_rfl) (by kernel_rfl) (by kernel_rfl) (fun _ _ _ h => h) (Or.inl ⟨by rfl, ?_⟩) (by assumption) ?_
          rotate_left
          · intro w hSw
            try dsimp only at hSw
            first | (go_simp; done) | (go_simp; with_reducible rfl)
          rotate_left
          try simp only [Act.put, List.setIfInBounds_toArray, List.set_cons_zero, List.set_cons_succ]
          refine wpAnyH_done (by kernel_rfl) ?_ _
          refine NoPanic.normal ?_
          have HB9 : Hid (Below W0.heap.size W0 y9.val) := below_over B3 y9.below
          clear hHeld B3 ho3 hg3 q3 qb3 O2 R2 qb qb9
          go_wp2
          go_ret
          exact ⟨rfl, below_over BW.out HB9.out⟩
        · have hk' : (tiE B == 0) = false := by simpa using hk
          go_wp2_with fail
          refine Calls.on_later (awake_any _) ?_
          intro y9
          go_wp2
          go_ret
          exact ⟨rfl, below_over BW.out (below_over B1.out y9.below)⟩
end Go.Proofs.Ytmhnoggihnhenaa
