/-
  The page's example: its walk.
-/
import Derived.Test.YtdlleecfmebenaaStp
import Derived.Test.YtdlleecfmebenaaRfS
import Derived.Test.YtdlleecfmebenaaConf
namespace Go.Proofs.Ytdlleecfmebenaa
set_option linter.unusedVariables false
set_option maxRecDepth 4000
set_option linter.unusedSimpArgs false
open Go.RowKit

def lX : List Pt := [aX, bX]
def uX : List Pt := [begP aX, bX]
def qX : Pt := (((zeroP.setN 73 kn73 4 wi4).setN 30 kn30 4 wi4).setN 31 kn31 4 wi4).setB 22 kb22 true
def vX : List Pt := [qX, bX]
def zX : List Pt := [prsP qX, bX]
theorem y1 : stepO lX 0 = some uX := by
  have h : (gtP lX 0).nm 73 = 0 := by kernel_rfl
  rw [step_ref]
  unfold refO
  rw [h]
  rfl
theorem y2 : stepO vX 0 = some zX := by
  have h73 : (gtP vX 0).nm 73 = 4 := by kernel_rfl
  have h22 : (gtP vX 0).bt 22 = true := by kernel_rfl
  have h28 : (gtP vX 0).bt 28 = false := by kernel_rfl
  have h30 : (gtP vX 0).nm 30 = 4 := by kernel_rfl
  have h31 : (gtP vX 0).nm 31 = 4 := by kernel_rfl
  have h7 : (gtP vX 0).bt 7 = false := by kernel_rfl
  have h4 : (gtP vX 0).bt 4 = false := by kernel_rfl
  have h13 : (gtP vX 0).bt 13 = false := by kernel_rfl
  rw [step_ref]
  unfold refO stO dsgO
  rw [h73, h22, h28, h30, h31, h7, h4, h13]
  rfl
theorem e1 : stepL lX 0 = uX ∧ stepB lX 0 = true := by
  obtain ⟨a, b⟩ := step_in (l := lX) (k := 0) (by decide)
  rw [y1] at a b
  exact ⟨a, b⟩
theorem e2 : stepL vX 0 = zX ∧ stepB vX 0 = true := by
  obtain ⟨a, b⟩ := step_in (l := vX) (k := 0) (by decide)
  rw [y2] at a b
  exact ⟨a, b⟩
theorem e5 : stepB lX 2 = false := (step_out (by decide)).2
theorem n1 : (begP aX).nm 73 = 1 := by kernel_rfl
theorem n2 : (begP aX).bt 24 = true := by kernel_rfl
theorem n3 : (begP aX).bt 20 = true := by kernel_rfl
theorem n4 : (prsP qX).bt 13 = true := by kernel_rfl
theorem n5 : (prsP qX).bt 11 = true := by kernel_rfl
/-- A tree of two ports in a variable. -/
structure TV (W : World) (b : Nat) (h : Hd) (g o c : Nat) (l : List Pt) : Prop where
  var : RvAt W b 31 (trc h (.slice (some ⟨g, o, none⟩) 2 c))
  sl : SlAt W (some ⟨g, o, none⟩) 2 c l
theorem TV.below {W V : World} {b g o c : Nat} {h : Hd} {l : List Pt} (t : TV W b h g o c l) (k : Below W.heap.size W V) : TV V b h g o c l := ⟨t.var.below k, t.sl.below k⟩
theorem TV.cell {W : World} {b g o c : Nat} {h : Hd} {p q : Pt} (t : TV W b h g o c [p, q]) {j : Nat} {v : Value} (hv : p.cl[j]? = some v) (hj : j < 77) : W.cell? ⟨g, o + j, none⟩ = some v := by
  have := t.sl.cell (i := 0) (x := p) rfl hv hj
  rw [Nat.zero_mul, Nat.add_zero] at this
  exact this
/-- .. made. -/
theorem TV.new {W : World} {h : Hd} {a : Option Addr} {c : Nat} {l : List Pt} (s : SlAt W a 2 c l) : ∃ g o, a = some ⟨g, o, none⟩ ∧ ∃ W', (stS 31 (.pointer (some ⟨W.heap.size, 0, none⟩)) (.agg (trc h (.slice (some ⟨g, o, none⟩) 2 c)))).run Try.prog (W.alloc (.cells #[.int .u64 0, .int .u8 0, .int .u8 0, .int .u8 0, .int .u8 0, .int .u8 0, .bool false, .int .u16 0, .int .u64 0, .int .u32 0, .int .u64 0, .int .u16 0, .int .u8 0, .int .u8 0, .int .u8 0, .int .u8 0, .slice none 0 0] 31)) = .ok () W' ∧ TV W' W.heap.size h g o c l ∧ Below W.heap.size W W' := by
  obtain ⟨g, o, rfl⟩ := s.some' (by omega)
  obtain ⟨W', e, r, b, z⟩ := new_tv W h (.slice (some ⟨g, o, none⟩) 2 c) rfl
  exact ⟨g, o, rfl, W', e, ⟨r, s.below b⟩, b⟩
def bdQ (ps : Array (Nat × Value)) : Sem Value := Instr.build 45 ps
theorem bdQE (ps : Array (Nat × Value)) : Instr.build 45 ps = bdQ ps := rfl
theorem bdq (w : World) : (bdQ #[(46, .int .i64 4), (30, .int .i64 4), (31, .int .i64 4), (22, .bool true)]).run Try.prog w = .ok (.agg qX.cs) w := by kernel_rfl
attribute [local go_sem ↓] ldP stP ldT stT bdQE
attribute [local go_sem] bdq
set_option maxHeartbeats 8000000 in
theorem awake_any (w : World) : Calls Try.prog 12 #[] w fun r w' => r = .returned (.bool true) ∧ Below w.heap.size w w' := by
  go_enter Try.func12, Try.ntmps12
  go_wp2_with fail
  refine (conf_any w).mono ?_
  rintro _ W1 ⟨a, k, rfl, s1, b1⟩
  have C := rnew_any cX a 2 k [20000, 20000] W1 s1 (by omega)
  rw [x0] at C
  simp only [hdN, psN, erC] at C
  rw [x1] at C
  obtain ⟨h, hh⟩ : ∃ h, newH cX = h := ⟨_, rfl⟩
  rw [hh] at C
  clear hh
  go_wp2_with fail
  refine C.mono ?_
  rintro _ W2 ⟨v, rfl, o2, b2⟩
  obtain ⟨g1, c1, rfl, hg, p2⟩ := own_two o2 rfl
  obtain ⟨g0, o0, eg, W3, s3, t3, b3⟩ := TV.new (h := h) p2.sl
  simp only [Option.some.injEq, Addr.mk.injEq] at eg
  obtain ⟨rfl, rfl, _⟩ := eg
  obtain ⟨i1, hi1⟩ : ∃ i, W2.heap.size = i := ⟨_, rfl⟩
  rw [hi1] at s3 t3
  have A1 : Hid (TV W3 i1 h g1 0 c1 lX ∧ Below w.heap.size w W3) := ⟨t3, below_over (below_over b1 b2) b3⟩
  have l3 := t3.var.tld
  clear C s1 b1 b2 o2 hg p2 t3 b3
  go_wp2_with fail
  refine (pstep_any h (some ⟨g1, 0, none⟩) 2 c1 lX 0 W3 A1.out.1.sl (by omega)).mono ?_
  rintro _ W4 ⟨a2, c2, rfl, s4, b4⟩
  rw [e1.1] at s4
  rw [e1.2]
  obtain ⟨g2, o2, rfl, W5, s5, t5, b5⟩ := TV.new (h := h) s4
  obtain ⟨i2, hi2⟩ : ∃ i, W4.heap.size = i := ⟨_, rfl⟩
  rw [hi2] at s5 t5
  have A2 : Hid (TV W5 i1 h g1 0 c1 lX ∧ TV W5 i2 h g2 o2 c2 uX ∧ Below w.heap.size w W5) := ⟨(A1.out.1.below b4).below b5, t5, below_over (below_over A1.out.2 b4) b5⟩
  have l5 := A2.out.1.var.tld
  clear s4 b4 t5 b5 A1 l3 s3 hi1
  go_wp2_with fail
  refine (pstep_any h (some ⟨g1, 0, none⟩) 2 c1 lX 2 W5 A2.out.1.sl (by omega)).mono ?_
  rintro _ W6 ⟨a3, c3, rfl, s6, b6⟩
  rw [e5]
  obtain ⟨l3, hl3⟩ : ∃ l, stepL lX 2 = l := ⟨_, rfl⟩
  rw [hl3] at s6
  obtain ⟨g3, o3, rfl, W7, s7, t7, b7⟩ := TV.new (h := h) s6
  obtain ⟨i3, hi3⟩ : ∃ i, W6.heap.size = i := ⟨_, rfl⟩
  rw [hi3] at s7 t7
  have A3 : Hid (TV W7 i2 h g2 o2 c2 uX ∧ Below w.heap.size w W7) := ⟨(A2.out.2.1.below b6).below b7, below_over (below_over A2.out.2.2 b6) b7⟩
  have l7 := A3.out.1.var.tld
  clear s6 b6 t7 b7 A2 l5 s5 hi2 hl3
  go_wp2_with fail
  refine (with_any h (some ⟨g2, o2, none⟩) 2 c2 uX 0 qX W7 A3.out.1.sl (by omega) (by omega)).mono ?_
  rintro _ W8 ⟨g4, c4, rfl, hg4, s8, b8⟩
  have s8 : SlAt W8 (some ⟨g4, 0, none⟩) 2 c4 vX := s8
  obtain ⟨g5, o5, eg, W9, s9, t9, b9⟩ := TV.new (h := h) s8
  simp only [Option.some.injEq, Addr.mk.injEq] at eg
  obtain ⟨rfl, rfl, _⟩ := eg
  obtain ⟨i4, hi4⟩ : ∃ i, W8.heap.size = i := ⟨_, rfl⟩
  rw [hi4] at s9 t9
  have A4 : Hid (TV W9 i2 h g2 o2 c2 uX ∧ TV W9 i4 h g4 0 c4 vX ∧ Below w.heap.size w W9) := ⟨(A3.out.1.below b8).below b9, t9, below_over (below_over A3.out.2 b8) b9⟩
  have l9 := A4.out.2.1.var.tld
  clear s8 b8 t9 b9 hg4 A3 l7 s7 hi3
  go_wp2_with fail
  refine (pstep_any h (some ⟨g4, 0, none⟩) 2 c4 vX 0 W9 A4.out.2.1.sl (by omega)).mono ?_
  rintro _ W10 ⟨a6, c6, rfl, s10, b10⟩
  rw [e2.1] at s10
  rw [e2.2]
  obtain ⟨g6, o6, rfl, W11, s11, t11, b11⟩ := TV.new (h := h) s10
  obtain ⟨i5, hi5⟩ : ∃ i, W10.heap.size = i := ⟨_, rfl⟩
  rw [hi5] at s11 t11
  have A5 : Hid (TV W11 i2 h g2 o2 c2 uX ∧ TV W11 i5 h g6 o6 c6 zX ∧ Below w.heap.size w W11) := ⟨(A4.out.1.below b10).below b11, t11, below_over (below_over A4.out.2.2 b10) b11⟩
  have u16 := A5.out.1.var.t16
  have w16 := A5.out.2.1.var.t16
  have k1 := A5.out.1.cell ((begP aX).num (j := 73) (k := .i64) rfl) (by omega)
  rw [n1] at k1
  have k2 := A5.out.1.cell ((begP aX).bit (j := 24) rfl) (by omega)
  rw [n2] at k2
  have k3 := A5.out.1.cell ((begP aX).bit (j := 20) rfl) (by omega)
  rw [n3] at k3
  have k4 := A5.out.2.1.cell ((prsP qX).bit (j := 13) rfl) (by omega)
  rw [n4] at k4
  have k5 := A5.out.2.1.cell ((prsP qX).bit (j := 11) rfl) (by omega)
  rw [n5] at k5
  have G : Hid (Below w.heap.size w W11) := A5.out.2.2
  clear s10 b10 t11 b11 A4 A5 l9 s9 hi4
  go_wp2
  go_ret
  exact ⟨rfl, G.out⟩
end Go.Proofs.Ytdlleecfmebenaa
