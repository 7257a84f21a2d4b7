/-
  The walk of what is put of a Config and an RST alike: for every message.
-/
import Derived.Test.YtfpoopllkmnagaaDoorFlags
namespace Go.Proofs.YtfpoopllkmnagaaDoor
set_option linter.unusedVariables false
set_option maxRecDepth 4000
set_option linter.unusedSimpArgs false
open Go.RowKit

attribute [local go_sem ↓] ldS32 ldS49 ldS28 ldS30 ldS83 stS32 stS49 stS28 stS30 eqP_eq nqP_eq eqM_eq nqM_eq nqV_eq nqT_eq


/-- In the midst of putting a message, which lies in block mB. -/
structure PB (w W : World) (b g x n cp mB : Nat) (m : Bp) (d : List Int) : Prop where
  st : PSt W b g x n cp d
  pv : PvAt W mB m
  ch : Ch (fun i => i = b ∨ i = g) w W
  nb : mB ≠ b
  ng : mB ≠ g
theorem PB.put {w W : World} {b g x n cp mB : Nat} {m : Bp} {d : List Int} (h : PB w W b g x n cp mB m d) (y z : Int) (s v : Nat) (hy : y = (s : Int)) (hz : z = (v : Int)) (hs : s ≤ 8) (hd : d.length + s ≤ n) (hn : n ≤ cp) (hc : cp ≤ 1000) (hv : v < 18446744073709551616) :
    Calls Tryd.prog 40 #[.int .i64 y, .int .u64 z, .pointer (some ⟨x, 0, none⟩), .pointer (some ⟨g, 0, none⟩)] W fun r w' => r = .returned (.tuple #[]) ∧ PB w w' b g x n cp mB m (d ++ be s v) := by
  subst hy hz
  refine (put_any s v b g x n cp d W h.st hs hd hn hc hv).mono ?_
  rintro _ w' ⟨rfl, h1, h2⟩
  exact ⟨rfl, h1, h2.pv h.pv (by have := h.nb; have := h.ng; omega), h.ch.trans (h2.wide fun i hi e => e), h.nb, h.ng⟩
theorem PB.below {w W W' : World} {b g x n cp mB : Nat} {m : Bp} {d : List Int} (h : PB w W b g x n cp mB m d) (k : Below W.heap.size W W') : PB w W' b g x n cp mB m d :=
  ⟨h.st.below k, h.pv.below k, h.ch.trans (Ch.of k), h.nb, h.ng⟩

theorem body_eq (m : Bp) (d : List Int) (h : m.wf) : d ++ be 1 (flN m) ++ be 8 m.rt ++ be 4 m.co ++ be 8 m.br ++ be 2 m.po ++ be 2 (m.a * 256) ++ be 2 (m.x * 256) ++ be 2 (m.h * 256) ++ be 2 (m.d * 256) = d ++ bodyL m := by
  rw [be1 _ (flN_lt m), be2 _ h.a, be2 _ h.x, be2 _ h.h, be2 _ h.d]
  simp [bodyL, restL]

theorem idxT0 (a x h d : Int) (w : World) : (Instr.index 81 (.agg #[.int .u8 a, .int .u8 x, .int .u8 h, .int .u8 d]) (.int .i64 0)).run Tryd.prog w = .ok (.int .u8 a) w := by kernel_rfl
theorem idxT1 (a x h d : Int) (w : World) : (Instr.index 81 (.agg #[.int .u8 a, .int .u8 x, .int .u8 h, .int .u8 d]) (.int .i64 1)).run Tryd.prog w = .ok (.int .u8 x) w := by kernel_rfl
theorem idxT2 (a x h d : Int) (w : World) : (Instr.index 81 (.agg #[.int .u8 a, .int .u8 x, .int .u8 h, .int .u8 d]) (.int .i64 2)).run Tryd.prog w = .ok (.int .u8 h) w := by kernel_rfl
theorem idxT3 (a x h d : Int) (w : World) : (Instr.index 81 (.agg #[.int .u8 a, .int .u8 x, .int .u8 h, .int .u8 d]) (.int .i64 3)).run Tryd.prog w = .ok (.int .u8 d) w := by kernel_rfl

set_option maxHeartbeats 4000000 in
theorem putBody_any (m : Bp) (b g x n cp : Nat) (d : List Int) (w : World) (h : PSt w b g x n cp d) (hR : Rl w) (hm : m.wf) (h0 : 0 ≠ b) (h0' : 0 ≠ g) (hd : d.length + 31 ≤ n) (hn : n ≤ cp) (hc : cp ≤ 1000) :
    Calls Tryd.prog 22 #[.func (.func 40) #[] #[.pointer (some ⟨x, 0, none⟩), .pointer (some ⟨g, 0, none⟩)], .agg m.cs] w fun r w' => r = .returned (.tuple #[]) ∧ PSt w' b g x n cp (d ++ bodyL m) ∧ Ch (fun i => i = b ∨ i = g) w w' := by
  have hbl := h.row.lt
  have hgl := lt_of_block h.at_
  have hB : Below w.heap.size w (w.alloc (.cells m.cs 32)) := (Below.refl _ _).alloc (Nat.le_refl _) _
  have hP : PB w (w.alloc (.cells m.cs 32)) b g x n cp w.heap.size m d := ⟨h.below hB, PvAt.new w m, Ch.of hB, by omega, by omega⟩
  have ld := hP.pv.ld
  have HR : Hid (Rl (w.alloc (.cells m.cs 32))) := hR.below hB hR.lt
  have HW : Hid (m.wf ∧ n ≤ cp ∧ cp ≤ 1000) := ⟨hm, hn, hc⟩
  have HD : Hid (d.length + 31 ≤ n) := hd
  have HP : Hid (PB w (w.alloc (.cells m.cs 32)) b g x n cp w.heap.size m d) := hP
  have HE : Hid (d ++ be 1 (flN m) ++ be 8 m.rt ++ be 4 m.co ++ be 8 m.br ++ be 2 m.po ++ be 2 (m.a * 256) ++ be 2 (m.x * 256) ++ be 2 (m.h * 256) ++ be 2 (m.d * 256) = d ++ bodyL m) := body_eq m d hm
  have HF : Hid (flN m < 256) := flN_lt m
  have wa := hm.a
  have wx := hm.x
  have wh := hm.h
  have wd := hm.d
  have i0 := idxT0
  have i1 := idxT1
  have i2 := idxT2
  have i3 := idxT3
  have wc := hm.co
  have wp := hm.po
  clear h hR hm hd hn hc hB hP hbl hgl h0 h0'
  go_enter Tryd.func22, Tryd.ntmps22
  go_wp2_with fail
  refine (flags_any m _ HR.out).mono ?_
  rintro _ W1 ⟨rfl, hb1⟩
  have HP1 : Hid (PB w W1 b g x n cp w.heap.size m d) := HP.out.below hb1
  clear hb1 HP HR ld
  go_wp2_with fail
  refine (HP1.out.put 1 ((flN m : Nat) : Int) 1 (flN m) rfl rfl (by omega) (by have := HD.out; omega) HW.out.2.1 HW.out.2.2 (by have := HF.out; omega)).mono ?_
  rintro _ W2 ⟨rfl, p2⟩
  have HP2 : Hid (PB w W2 b g x n cp w.heap.size m (d ++ be 1 (flN m))) := p2
  have k2 := p2.pv.c8
  clear p2 HP1
  go_wp2_with fail
  refine (HP2.out.put 8 ((m.rt : Nat) : Int) 8 m.rt rfl rfl (by omega) (by have := HD.out; simp only [List.length_append, be_len]; omega) HW.out.2.1 HW.out.2.2 (by have := HW.out.1.rt; omega)).mono ?_
  rintro _ W3 ⟨rfl, p3⟩
  have HP3 : Hid (PB w W3 b g x n cp w.heap.size m (d ++ be 1 (flN m) ++ be 8 m.rt)) := p3
  have k3 := p3.pv.c9
  clear p3 HP2 k2
  go_wp2_with fail
  refine (HP3.out.put 4 ((m.co : Nat) : Int) 4 m.co rfl rfl (by omega) (by have := HD.out; simp only [List.length_append, be_len]; omega) HW.out.2.1 HW.out.2.2 (by have := HW.out.1.co; omega)).mono ?_
  rintro _ W4 ⟨rfl, p4⟩
  have HP4 : Hid (PB w W4 b g x n cp w.heap.size m (d ++ be 1 (flN m) ++ be 8 m.rt ++ be 4 m.co)) := p4
  have k4 := p4.pv.c10
  clear p4 HP3 k3
  go_wp2_with fail
  refine (HP4.out.put 8 ((m.br : Nat) : Int) 8 m.br rfl rfl (by omega) (by have := HD.out; simp only [List.length_append, be_len]; omega) HW.out.2.1 HW.out.2.2 (by have := HW.out.1.br; omega)).mono ?_
  rintro _ W5 ⟨rfl, p5⟩
  have HP5 : Hid (PB w W5 b g x n cp w.heap.size m (d ++ be 1 (flN m) ++ be 8 m.rt ++ be 4 m.co ++ be 8 m.br)) := p5
  have k5 := p5.pv.c11
  clear p5 HP4 k4
  go_wp2_with fail
  refine (HP5.out.put 2 ((m.po : Nat) : Int) 2 m.po rfl rfl (by omega) (by have := HD.out; simp only [List.length_append, be_len]; omega) HW.out.2.1 HW.out.2.2 (by have := HW.out.1.po; omega)).mono ?_
  rintro _ W6 ⟨rfl, p6⟩
  have HP6 : Hid (PB w W6 b g x n cp w.heap.size m (d ++ be 1 (flN m) ++ be 8 m.rt ++ be 4 m.co ++ be 8 m.br ++ be 2 m.po)) := p6
  have t12 := p6.pv.c12
  have t13 := p6.pv.c13
  have t14 := p6.pv.c14
  have t15 := p6.pv.c15
  clear p6 HP5 k5
  go_wp2_with fail
  refine wp_loop_rounds 5 ?_
  rw [rounds_succ]
  go_wp2_with fail
  refine (HP6.out.put 2 ((m.a : Nat) * 256) 2 (m.a * 256) rfl (by simp) (by omega) (by have := HD.out; simp only [List.length_append, be_len]; omega) HW.out.2.1 HW.out.2.2 (by have := HW.out.1.a; omega)).mono ?_
  rintro _ W7 ⟨rfl, p7⟩
  have HP7 : Hid (PB w W7 b g x n cp w.heap.size m (d ++ be 1 (flN m) ++ be 8 m.rt ++ be 4 m.co ++ be 8 m.br ++ be 2 m.po ++ be 2 (m.a * 256))) := p7
  clear p7 HP6 t12 t13 t14 t15
  go_wp2_with fail
  rw [rounds_succ]
  go_wp2_with fail
  refine (HP7.out.put 2 ((m.x : Nat) * 256) 2 (m.x * 256) rfl (by simp) (by omega) (by have := HD.out; simp only [List.length_append, be_len]; omega) HW.out.2.1 HW.out.2.2 (by have := HW.out.1.x; omega)).mono ?_
  rintro _ W8 ⟨rfl, p8⟩
  have HP8 : Hid (PB w W8 b g x n cp w.heap.size m (d ++ be 1 (flN m) ++ be 8 m.rt ++ be 4 m.co ++ be 8 m.br ++ be 2 m.po ++ be 2 (m.a * 256) ++ be 2 (m.x * 256))) := p8
  clear p8 HP7
  go_wp2_with fail
  rw [rounds_succ]
  go_wp2_with fail
  refine (HP8.out.put 2 ((m.h : Nat) * 256) 2 (m.h * 256) rfl (by simp) (by omega) (by have := HD.out; simp only [List.length_append, be_len]; omega) HW.out.2.1 HW.out.2.2 (by have := HW.out.1.h; omega)).mono ?_
  rintro _ W9 ⟨rfl, p9⟩
  have HP9 : Hid (PB w W9 b g x n cp w.heap.size m (d ++ be 1 (flN m) ++ be 8 m.rt ++ be 4 m.co ++ be 8 m.br ++ be 2 m.po ++ be 2 (m.a * 256) ++ be 2 (m.x * 256) ++ be 2 (m.h * 256))) := p9
  clear p9 HP8
  go_wp2_with fail
  rw [rounds_succ]
  go_wp2_with fail
  refine (HP9.out.put 2 ((m.d : Nat) * 256) 2 (m.d * 256) rfl (by simp) (by omega) (by have := HD.out; simp only [List.length_append, be_len]; omega) HW.out.2.1 HW.out.2.2 (by have := HW.out.1.d; omega)).mono ?_
  rintro _ W10 ⟨rfl, p10⟩
  have HP10 : Hid (PB w W10 b g x n cp w.heap.size m (d ++ be 1 (flN m) ++ be 8 m.rt ++ be 4 m.co ++ be 8 m.br ++ be 2 m.po ++ be 2 (m.a * 256) ++ be 2 (m.x * 256) ++ be 2 (m.h * 256) ++ be 2 (m.d * 256))) := p10
  clear p10 HP9
  go_wp2_with fail
  rw [rounds_succ]
  go_wp2
  go_end0
  have hp := HP10.out
  rw [HE.out] at hp
  exact ⟨rfl, hp.st, hp.ch⟩
end Go.Proofs.YtfpoopllkmnagaaDoor
