/-
  The page's example: its walk.
-/
import Derived.Test.YtlneoegmlcbidaaPimH
import Derived.Test.YtlneoegmlcbidaaConf
namespace Go.Proofs.Ytlneoegmlcbidaa
set_option linter.unusedVariables false
set_option maxRecDepth 4000
set_option linter.unusedSimpArgs false
open Go.RowKit

def lX : List Pt := [aX, bX]
def uX : List Pt := [disP aX, bX]
def oX : List Pt := [upP true (disP aX), bX]
def vX : List Pt := [agdP (upP true (disP aX)), bX]
theorem km0 : kdM[0]? = some (some .i64) := rfl
def mX : Mg := zeroM.set 0 (.int .i64 2) (fit_num km0 (by decide))
def zX : List Pt := [takeP (agdP (upP true (disP aX))) mX, bX]
theorem y1 : stepO aX = some (disP aX) := by
  have h2 : aX.bt 2 = false := by kernel_rfl
  have h29 : aX.nm 29 = 0 := by kernel_rfl
  have h72 : aX.nm 72 = 0 := by kernel_rfl
  simp [stepO, h2, h29, h72]
theorem y2 : stepO (disP aX) = none := by
  have h2 : (disP aX).bt 2 = false := by kernel_rfl
  have h14 : (disP aX).bt 14 = false := by kernel_rfl
  have h29 : (disP aX).nm 29 = 0 := by kernel_rfl
  have h72 : (disP aX).nm 72 = 1 := by kernel_rfl
  simp [stepO, fdsO, h2, h29, h72, h14]
theorem y3 : stepO (upP true (disP aX)) = some (agdP (upP true (disP aX))) := by
  have h2 : (upP true (disP aX)).bt 2 = true := by kernel_rfl
  have h72 : (upP true (disP aX)).nm 72 = 1 := by kernel_rfl
  simp [stepO, fdsO, h2, h72]
theorem e1 : stepL lX 0 = uX ∧ stepB lX 0 = true := by
  have hg : gtP lX (0 : Int).toNat = aX := rfl
  unfold stepL stepB
  rw [if_pos (by decide), if_pos (by decide), hg, y1]
  exact ⟨rfl, rfl⟩
theorem e2 : stepB uX 0 = false := by
  have hg : gtP uX (0 : Int).toNat = disP aX := rfl
  unfold stepB
  rw [if_pos (by decide), hg, y2]
  rfl
theorem e3 : upL uX 0 true = oX := by
  unfold upL
  rw [if_pos (by decide)]
  rfl
theorem e4 : stepL oX 0 = vX ∧ stepB oX 0 = true := by
  have hg : gtP oX (0 : Int).toNat = upP true (disP aX) := rfl
  unfold stepL stepB
  rw [if_pos (by decide), if_pos (by decide), hg, y3]
  exact ⟨rfl, rfl⟩
theorem e5 : stepB lX 2 = false := by
  unfold stepB
  rw [if_neg (by decide)]
theorem e6 : hearL vX 0 mX = zX := by
  unfold hearL
  rw [if_pos (by decide)]
  rfl
theorem n1 : (disP aX).nm 72 = 1 := by kernel_rfl
theorem n2 : (disP aX).bt 21 = true := by kernel_rfl
theorem n3 : (agdP (upP true (disP aX))).nm 72 = 2 := by kernel_rfl
theorem n4 : (agdP (upP true (disP aX))).nm 29 = 1 := by kernel_rfl
theorem n5 : (takeP (agdP (upP true (disP aX))) mX).bt 14 = true := by kernel_rfl
/-- A tree of two ports in a variable. -/
structure TV (W : World) (b : Nat) (h : Hd) (g o c : Nat) (l : List Pt) : Prop where
  var : RvAt W b 31 (trc h (.slice (some ⟨g, o, none⟩) 2 c))
  sl : SlAt W (some ⟨g, o, none⟩) 2 c l
theorem TV.below {W V : World} {b g o c : Nat} {h : Hd} {l : List Pt} (t : TV W b h g o c l) (k : Below W.heap.size W V) : TV V b h g o c l := ⟨t.var.below k, t.sl.below k⟩
theorem TV.cell {W : World} {b g o c : Nat} {h : Hd} {p q : Pt} (t : TV W b h g o c [p, q]) {j : Nat} {v : Value} (hv : p.cl[j]? = some v) (hj : j < 77) : W.cell? ⟨g, o + j, none⟩ = some v := by
  have := t.sl.cell (i := 0) (x := p) rfl hv hj
  rw [Nat.zero_mul, Nat.add_zero] at this
  exact this
/-- .. made. -/
theorem TV.new {W : World} {h : Hd} {a : Option Addr} {c : Nat} {l : List Pt} (s : SlAt W a 2 c l) : ∃ g o, a = some ⟨g, o, none⟩ ∧ ∃ W', (stS 31 (.pointer (some ⟨W.heap.size, 0, none⟩)) (.agg (trc h (.slice (some ⟨g, o, none⟩) 2 c)))).run Try.prog (W.alloc (.cells #[.int .u64 0, .int .u8 0, .int .u8 0, .int .u8 0, .int .u8 0, .int .u8 0, .bool false, .int .u16 0, .int .u64 0, .int .u32 0, .int .u64 0, .int .u16 0, .int .u8 0, .int .u8 0, .int .u8 0, .int .u8 0, .slice none 0 0] 31)) = .ok () W' ∧ TV W' W.heap.size h g o c l ∧ Below W.heap.size W W' := by
  obtain ⟨g, o, rfl⟩ := s.some' (by omega)
  obtain ⟨W', e, r, b, z⟩ := new_tv W h (.slice (some ⟨g, o, none⟩) 2 c) rfl
  exact ⟨g, o, rfl, W', e, ⟨r, s.below b⟩, b⟩
def bdS (t : TypeId) (ps : Array (Nat × Value)) : Sem Value := Instr.build t ps
theorem bdM (ps : Array (Nat × Value)) : Instr.build 35 ps = bdS 35 ps := rfl
theorem bdm (w : World) : (bdS 35 #[(0, .int .i64 2)]).run Try.prog w = .ok (.agg mX.cs) w := by kernel_rfl
attribute [local go_sem ↓] ldP stP ldT stT ldM stM bdM
attribute [local go_sem] bdm
set_option maxHeartbeats 8000000 in
theorem awake_any (w : World) : Calls Try.prog 13 #[] w fun r w' => r = .returned (.bool true) ∧ Below w.heap.size w w' := by
  go_enter Try.func13, Try.ntmps13
  go_wp2_with fail
  refine (conf_any w).mono ?_
  rintro _ W1 ⟨a, k, rfl, s1, b1⟩
  have C := rnew_any cX a 2 k [20000, 20000] W1 s1 (by omega)
  rw [x0] at C
  simp only [hdN, psN, erC] at C
  rw [x1] at C
  obtain ⟨h, hh⟩ : ∃ h, newH cX = h := ⟨_, rfl⟩
  rw [hh] at C
  clear hh
  go_wp2_with fail
  refine C.mono ?_
  rintro _ W2 ⟨v, rfl, o2, b2⟩
  obtain ⟨g1, c1, rfl, hg, p2⟩ := own_two o2 rfl
  obtain ⟨g0, o0, eg, W3, s3, t3, b3⟩ := TV.new (h := h) p2.sl
  simp only [Option.some.injEq, Addr.mk.injEq] at eg
  obtain ⟨rfl, rfl, _⟩ := eg
  obtain ⟨i1, hi1⟩ : ∃ i, W2.heap.size = i := ⟨_, rfl⟩
  rw [hi1] at s3 t3
  have A1 : Hid (TV W3 i1 h g1 0 c1 lX ∧ Below w.heap.size w W3) := ⟨t3, below_over (below_over b1 b2) b3⟩
  have l3 := t3.var.tld
  clear C s1 b1 b2 o2 hg p2 t3 b3
  go_wp2_with fail
  refine (pstep_any h (some ⟨g1, 0, none⟩) 2 c1 lX 0 W3 A1.out.1.sl (by omega)).mono ?_
  rintro _ W4 ⟨a2, c2, rfl, s4, b4⟩
  rw [e1.1] at s4
  rw [e1.2]
  obtain ⟨g2, o2, rfl, W5, s5, t5, b5⟩ := TV.new (h := h) s4
  obtain ⟨i2, hi2⟩ : ∃ i, W4.heap.size = i := ⟨_, rfl⟩
  rw [hi2] at s5 t5
  have A2 : Hid (TV W5 i1 h g1 0 c1 lX ∧ TV W5 i2 h g2 o2 c2 uX ∧ Below w.heap.size w W5) := ⟨(A1.out.1.below b4).below b5, t5, below_over (below_over A1.out.2 b4) b5⟩
  have l5 := t5.var.tld
  clear s4 b4 t5 b5 A1 l3 s3 hi1
  go_wp2_with fail
  refine (pstep_any h (some ⟨g2, o2, none⟩) 2 c2 uX 0 W5 A2.out.2.1.sl (by omega)).mono ?_
  rintro _ W6 ⟨a3, c3, rfl, s6, b6⟩
  rw [e2]
  obtain ⟨l3, hl3⟩ : ∃ l, stepL uX 0 = l := ⟨_, rfl⟩
  rw [hl3] at s6
  obtain ⟨g3, o3, rfl, W7, s7, t7, b7⟩ := TV.new (h := h) s6
  obtain ⟨i3, hi3⟩ : ∃ i, W6.heap.size = i := ⟨_, rfl⟩
  rw [hi3] at s7 t7
  have A3 : Hid (TV W7 i1 h g1 0 c1 lX ∧ TV W7 i2 h g2 o2 c2 uX ∧ Below w.heap.size w W7) := ⟨(A2.out.1.below b6).below b7, (A2.out.2.1.below b6).below b7, below_over (below_over A2.out.2.2 b6) b7⟩
  have l7 := A3.out.2.1.var.tld
  clear s6 b6 t7 b7 A2 l5 s5 hi2 hl3
  go_wp2_with fail
  refine (rup_any h (some ⟨g2, o2, none⟩) 2 c2 uX 0 true W7 A3.out.2.1.sl (by omega)).mono ?_
  rintro _ W8 ⟨v8, rfl, q8, b8⟩
  rw [e3] at q8
  obtain ⟨g4, c4, rfl, _, p8⟩ := own_two q8 rfl
  have A4 : Hid (TV W8 i1 h g1 0 c1 lX ∧ TV W8 i2 h g2 o2 c2 uX ∧ Below w.heap.size w W8 ∧ SlAt W8 (some ⟨g4, 0, none⟩) 2 c4 oX) := ⟨A3.out.1.below b8, A3.out.2.1.below b8, below_over A3.out.2.2 b8, p8.sl⟩
  clear q8 b8 p8 A3 l7 s7 hi3
  go_wp2_with fail
  refine (pstep_any h (some ⟨g4, 0, none⟩) 2 c4 oX 0 W8 A4.out.2.2.2 (by omega)).mono ?_
  rintro _ W9 ⟨a5, c5, rfl, s9, b9⟩
  rw [e4.1] at s9
  rw [e4.2]
  obtain ⟨g5, o5, rfl, W10, s10, t10, b10⟩ := TV.new (h := h) s9
  obtain ⟨i4, hi4⟩ : ∃ i, W9.heap.size = i := ⟨_, rfl⟩
  rw [hi4] at s10 t10
  have A5 : Hid (TV W10 i1 h g1 0 c1 lX ∧ TV W10 i2 h g2 o2 c2 uX ∧ TV W10 i4 h g5 o5 c5 vX ∧ Below w.heap.size w W10) := ⟨(A4.out.1.below b9).below b10, (A4.out.2.1.below b9).below b10, t10, below_over (below_over A4.out.2.2.1 b9) b10⟩
  have l10 := A5.out.1.var.tld
  clear s9 b9 t10 b10 A4
  go_wp2_with fail
  refine (pstep_any h (some ⟨g1, 0, none⟩) 2 c1 lX 2 W10 A5.out.1.sl (by omega)).mono ?_
  rintro _ W11 ⟨a6, c6, rfl, s11, b11⟩
  rw [e5]
  obtain ⟨l6, hl6⟩ : ∃ l, stepL lX 2 = l := ⟨_, rfl⟩
  rw [hl6] at s11
  obtain ⟨g6, o6, rfl, W12, s12, t12, b12⟩ := TV.new (h := h) s11
  obtain ⟨i5, hi5⟩ : ∃ i, W11.heap.size = i := ⟨_, rfl⟩
  rw [hi5] at s12 t12
  have A6 : Hid (TV W12 i2 h g2 o2 c2 uX ∧ TV W12 i4 h g5 o5 c5 vX ∧ Below w.heap.size w W12) := ⟨(A5.out.2.1.below b11).below b12, (A5.out.2.2.1.below b11).below b12, below_over (below_over A5.out.2.2.2 b11) b12⟩
  have l12 := A6.out.2.1.var.tld
  clear s11 b11 t12 b12 A5 l10 s10 hi4 hl6
  go_wp2_with fail
  refine (phear_any h (some ⟨g5, o5, none⟩) 2 c5 vX 0 mX W12 A6.out.2.1.sl (by omega)).mono ?_
  rintro _ W13 ⟨a7, c7, rfl, s13, b13⟩
  rw [e6] at s13
  obtain ⟨g7, o7, rfl, W14, s14, t14, b14⟩ := TV.new (h := h) s13
  obtain ⟨i6, hi6⟩ : ∃ i, W13.heap.size = i := ⟨_, rfl⟩
  rw [hi6] at s14 t14
  have A7 : Hid (TV W14 i2 h g2 o2 c2 uX ∧ TV W14 i4 h g5 o5 c5 vX ∧ TV W14 i6 h g7 o7 c7 zX ∧ Below w.heap.size w W14) := ⟨(A6.out.1.below b13).below b14, (A6.out.2.1.below b13).below b14, t14, below_over (below_over A6.out.2.2 b13) b14⟩
  have u16 := A7.out.1.var.t16
  have v16 := A7.out.2.1.var.t16
  have w16 := A7.out.2.2.1.var.t16
  have k1 := A7.out.1.cell ((disP aX).num (j := 72) (k := .i64) rfl) (by omega)
  rw [n1] at k1
  have k2 := A7.out.1.cell ((disP aX).bit (j := 21) rfl) (by omega)
  rw [n2] at k2
  have k3 := A7.out.2.1.cell ((agdP (upP true (disP aX))).num (j := 72) (k := .i64) rfl) (by omega)
  rw [n3] at k3
  have k4 := A7.out.2.1.cell ((agdP (upP true (disP aX))).num (j := 29) (k := .i64) rfl) (by omega)
  rw [n4] at k4
  have k5 := A7.out.2.2.1.cell ((takeP (agdP (upP true (disP aX))) mX).bit (j := 14) rfl) (by omega)
  rw [n5] at k5
  have G : Hid (Below w.heap.size w W14) := A7.out.2.2.2
  clear s13 b13 t14 b14 A6 A7 l12 s12 hi5
  go_wp2
  go_ret
  exact ⟨rfl, G.out⟩
end Go.Proofs.Ytlneoegmlcbidaa
