/-
  The page's example: its walk.
-/
import Derived.Test.YtllmadgonobdnaaPtx
import Derived.Test.YtllmadgonobdnaaConf
namespace Go.Proofs.Ytllmadgonobdnaa
set_option linter.unusedVariables false
set_option maxRecDepth 4000
set_option linter.unusedSimpArgs false
open Go.RowKit

theorem kn30 : kdP[30]? = some (some .i64) := rfl
theorem kq32 : (kdP.drop 32).take kdV.length = kdV := rfl
theorem kl32 : 32 + kdV.length ≤ kdP.length := by decide
def vX : Vc := (((zeroR kdV).set 0 (.int .u64 3) (fit_num rfl (by decide))).set 2 (.int .u64 4) (fit_num rfl (by decide))).set 3 (.int .u16 5) (fit_num rfl (by decide))
theorem vX_cs : vX.cs = #[.int .u64 3, .int .u32 0, .int .u64 4, .int .u16 5] := rfl
def qX : Pt := (((((((zeroP.setN 75 kn75 1 wi1).setN 30 kn30 4 wi4).setB 22 kb22 true).setB 2 kb2 true).setB 11 kb11 true).setB 23 kb23 true).setU 66 2).put 32 vX kq32 kl32
def lX : List Pt := [aX, qX]
def bdQ (ps : Array (Nat × Value)) : Sem Value := Instr.build 53 ps
theorem bdQE (ps : Array (Nat × Value)) : Instr.build 53 ps = bdQ ps := rfl
theorem bdq (w : World) : (bdQ #[(48, .int .i64 1), (30, .int .i64 4), (22, .bool true), (2, .bool true), (11, .bool true), (23, .bool true), (39, .int .u8 2), (32, .agg vX.cs)]).run Try.prog w = .ok (.agg qX.cs) w := by
  rw [vX_cs]
  kernel_rfl
def bdV (ps : Array (Nat × Value)) : Sem Value := Instr.build 28 ps
theorem bdVE (ps : Array (Nat × Value)) : Instr.build 28 ps = bdV ps := rfl
theorem bdv (w : World) : (bdV #[(0, .int .u64 3), (2, .int .u64 4), (3, .int .u16 5)]).run Try.prog w = .ok (.agg vX.cs) w := by
  rw [vX_cs]
  kernel_rfl
theorem q75 : qX.nm 75 = 1 := by kernel_rfl
theorem q22 : qX.bt 22 = true := by kernel_rfl
theorem q28 : qX.bt 28 = false := by kernel_rfl
theorem q66 : qX.nm 66 = 2 := by kernel_rfl
theorem q2 : qX.bt 2 = true := by kernel_rfl
theorem q11 : qX.bt 11 = true := by kernel_rfl
theorem q64 : qX.nm 64 = 0 := by kernel_rfl
theorem q23 : qX.bt 23 = true := by kernel_rfl
theorem q76 : qX.nm 76 = 0 := by kernel_rfl
theorem q30 : qX.nm 30 = 4 := by kernel_rfl
theorem qC {h : Hd} (e : h.nm 5 = 6) : ptxC h qX = 3 := by
  unfold ptxC
  rw [if_pos q75, if_pos ⟨q22, q28⟩, if_neg (by rw [q66]; decide), if_pos ⟨q2, q11, by rw [q64, e]; decide, by unfold voiB; rw [q23]; rfl⟩]
theorem qD : ppmC qX = 1 := by
  unfold ppmC
  rw [q76]
  rfl
theorem qdsg : dsg qX = vX := Row.ext' (by kernel_rfl)
def uX : List Pt := [aX, waiP (sntP qX)]
def zX : List Pt := [aX, chkP qX]
def mX : Mg := rstM qX
theorem e1 {h : Hd} (e : h.nm 5 = 6) : ptxI h lX 1 = some uX := by
  have h1 := ptxI_in (h := h) (l := lX) (k := 1) (by decide)
  have h2 : ptxO h lX 1 = some uX := ptxO_yes (c := 3) (l := lX) (k := 1) (qC e) (by decide)
  exact h1.trans h2
theorem e2 {h : Hd} (e : h.nm 5 = 6) : ptxV h lX 1 = some (outI 1 mX) := by
  have h1 := ptxV_in (h := h) (l := lX) (k := 1) (by decide)
  have h2 : ptxU h lX 1 = some (outI ((1 : Nat) : Int) (msgP qX)) := ptxU_yes (l := lX) (k := 1) (qC e)
  have h3 : msgP qX = mX := by unfold msgP; rw [if_pos q23]; rfl
  rw [h3] at h2
  exact h1.trans h2
theorem e3 : ppmI lX 1 = some zX := by
  have h1 := ppmI_in (l := lX) (k := 1) (by decide)
  have h2 : ppmO lX 1 = some zX := ppmO_yes (c := 1) (l := lX) (k := 1) qD (by decide)
  exact h1.trans h2
theorem oX : outI 1 mX = outR 1 wi1 mX := outI_is wi1 mX
theorem n11 : (waiP (sntP qX)).bt 11 = false := by kernel_rfl
theorem n64 : (waiP (sntP qX)).nm 64 = 1 := by kernel_rfl
theorem n67 : (chkP qX).nm 67 = 3 := by kernel_rfl
/-- A tree of two ports in a variable. -/
structure TV (W : World) (b : Nat) (h : Hd) (g o c : Nat) (l : List Pt) : Prop where
  var : RvAt W b 31 (trc h (.slice (some ⟨g, o, none⟩) 2 c))
  sl : SlAt W (some ⟨g, o, none⟩) 2 c l
theorem TV.below {W V : World} {b g o c : Nat} {h : Hd} {l : List Pt} (t : TV W b h g o c l) (k : Below W.heap.size W V) : TV V b h g o c l := ⟨t.var.below k, t.sl.below k⟩
theorem TV.cell {W : World} {b g o c : Nat} {h : Hd} {p q : Pt} (t : TV W b h g o c [p, q]) {j : Nat} {v : Value} (hv : q.cl[j]? = some v) (hj : j < 77) : W.cell? ⟨g, o + 77 + j, none⟩ = some v := by
  have := t.sl.cell (i := 1) (x := q) rfl hv hj
  rw [Nat.one_mul] at this
  exact this
/-- .. made. -/
theorem TV.new {W : World} {h : Hd} {a : Option Addr} {c : Nat} {l : List Pt} (s : SlAt W a 2 c l) : ∃ g o, a = some ⟨g, o, none⟩ ∧ ∃ W', (stS 31 (.pointer (some ⟨W.heap.size, 0, none⟩)) (.agg (trc h (.slice (some ⟨g, o, none⟩) 2 c)))).run Try.prog (W.alloc (.cells #[.int .u64 0, .int .u8 0, .int .u8 0, .int .u8 0, .int .u8 0, .int .u8 0, .bool false, .int .u16 0, .int .u64 0, .int .u32 0, .int .u64 0, .int .u16 0, .int .u8 0, .int .u8 0, .int .u8 0, .int .u8 0, .slice none 0 0] 31)) = .ok () W' ∧ TV W' W.heap.size h g o c l ∧ Below W.heap.size W W' := by
  obtain ⟨g, o, rfl⟩ := s.some' (by omega)
  obtain ⟨W', e, r, b, z⟩ := new_tv W h (.slice (some ⟨g, o, none⟩) 2 c) rfl
  exact ⟨g, o, rfl, W', e, ⟨r, s.below b⟩, b⟩
theorem var_v (W : World) (v : Vc) : ∃ W', (stS 28 (.pointer (some ⟨W.heap.size, 0, none⟩)) (.agg v.cs)).run Try.prog (W.alloc (.cells #[.int .u64 0, .int .u32 0, .int .u64 0, .int .u16 0] 28)) = .ok () W' ∧ RvAt W' W.heap.size 28 v.cs ∧ Below W.heap.size W W' ∧ W'.heap.size = W.heap.size + 1 :=
  row_new rtV W _ _ rfl (by rw [Row.csize, lenV]) v.one'
theorem rtO : RowTy 48 17 := ⟨infoO, _, Try.underlying48, rfl⟩
theorem RvAt.oV {W : World} {b : Nat} {r : Ot} {v : Vc} (hb : RvAt W b 48 r.cs) (e : v.cl = (r.cl.drop 9).take 4) : (ldS 28 (.pointer (some ⟨b, 9, none⟩))).run Try.prog W = .ok (.agg v.cs) W := hb.part e rfl Try.underlying28 rfl infoV
theorem oXv : vX.cl = ((outR 1 wi1 mX).cl.drop 9).take 4 := by
  show vX.cl = ((Value.int .i64 1 :: (rstM qX).cl).drop 9).take 4
  rw [rst_cl, qdsg, vc_cl vX, tm_cl (dsT qX)]
  rfl
theorem o0 : (outR 1 wi1 mX).nm 0 = 1 := rfl
theorem o1 : (outR 1 wi1 mX).nm 1 = 3 := by
  show Row.nm (rstM qX) 0 = 3
  rfl
theorem o8 : (outR 1 wi1 mX).nm 8 = 4 := by
  have h : (outR 1 wi1 mX).cl[8]? = some (.int .i64 4) := by
    show (rstM qX).cl[7]? = _
    rw [rst_cl, q30]
    rfl
  unfold Row.nm
  rw [h]
attribute [local go_sem ↓] ldP stP ldT stT bdQE bdVE ldV stV eqgV eqlV
attribute [local go_sem] bdq bdv
set_option maxHeartbeats 8000000 in
theorem awake_any (w : World) : Calls Try.prog 16 #[] w fun r w' => r = .returned (.bool true) ∧ Below w.heap.size w w' := by
  go_enter Try.func16, Try.ntmps16
  go_wp2_with fail
  refine (conf_any w).mono ?_
  rintro _ W1 ⟨a, k, rfl, s1, b1⟩
  have C := rnew_any cX a 2 k [20000, 20000] W1 s1 (by omega)
  rw [x0] at C
  simp only [hdN, psN, erC] at C
  rw [x1] at C
  obtain ⟨h, hh⟩ : ∃ h, newH cX = h := ⟨_, rfl⟩
  rw [hh] at C
  have H5 : Hid (h.nm 5 = 6) := by rw [← hh]; exact (by kernel_rfl : (newH cX).nm 5 = 6)
  clear hh
  go_wp2_with fail
  refine C.mono ?_
  rintro _ W2 ⟨v, rfl, o2, b2⟩
  obtain ⟨g1, c1, rfl, hg, p2⟩ := own_two o2 rfl
  obtain ⟨g0, o0, eg, W3, s3, t3, b3⟩ := TV.new (h := h) p2.sl
  simp only [Option.some.injEq, Addr.mk.injEq] at eg
  obtain ⟨rfl, rfl, _⟩ := eg
  obtain ⟨i1, hi1⟩ : ∃ i, W2.heap.size = i := ⟨_, rfl⟩
  rw [hi1] at s3 t3
  have A1 : Hid (TV W3 i1 h g1 0 c1 [aX, bX] ∧ Below w.heap.size w W3) := ⟨t3, below_over (below_over b1 b2) b3⟩
  have HI : Hid (w.heap.size ≤ i1) := by rw [← hi1]; exact (below_over b1 b2).size
  clear C s1 b1 b2 o2 hg p2 t3 b3
  obtain ⟨W4, s4, r4, b4, z4⟩ := var_v W3 vX
  obtain ⟨iv, hiv⟩ : ∃ i, W3.heap.size = i := ⟨_, rfl⟩
  rw [hiv] at s4 r4
  have A2 : Hid (TV W4 i1 h g1 0 c1 [aX, bX] ∧ RvAt W4 iv 28 vX.cs ∧ Below w.heap.size w W4) := ⟨A1.out.1.below b4, r4, below_over A1.out.2 b4⟩
  have l4 := A2.out.1.var.tld
  have lv := A2.out.2.1.ld rtV (by rw [Row.csize, lenV])
  clear r4 b4 z4 A1
  go_wp2_with fail
  refine (with_any h (some ⟨g1, 0, none⟩) 2 c1 [aX, bX] 1 qX W4 A2.out.1.sl (by omega) (by omega)).mono ?_
  rintro _ W5 ⟨g4, c4, rfl, hg4, s8, b8⟩
  have s8 : SlAt W5 (some ⟨g4, 0, none⟩) 2 c4 lX := s8
  obtain ⟨W6, s6, r6, g6⟩ := (A2.out.1.var.below b8).tst (g := h) (y := .slice (some ⟨g4, 0, none⟩) 2 c4) rfl
  have t6 : TV W6 i1 h g4 0 c4 lX := ⟨r6, s8.keptT (A2.out.1.var.below b8) g6⟩
  have A3 : Hid (TV W6 i1 h g4 0 c4 lX ∧ RvAt W6 iv 28 vX.cs ∧ Below w.heap.size w W6) := ⟨t6, (A2.out.2.1.below b8).keptBut g6 (by have := (A2.out.2.1.below b8).apart (A2.out.1.var.below b8) (by decide); simpa using this), gro (below_over A2.out.2.2 b8) g6 HI.out (below_over A2.out.2.2 b8).size⟩
  have l6 := A3.out.1.var.tld
  clear s8 b8 r6 g6 t6 hg4 A2 l4 lv s3 hi1 s4 hiv
  go_wp2_with fail
  refine (ptx_any h (some ⟨g4, 0, none⟩) 2 c4 lX 1 W6 A3.out.1.sl (by omega)).mono ?_
  rintro _ W7 ⟨a7, c7, v7, rfl, s7, u7, b7⟩
  rw [e1 H5.out] at s7 ⊢
  rw [e2 H5.out] at u7
  obtain ⟨ob, rfl, ro⟩ := u7
  rw [oX] at ro
  obtain ⟨g7, o7, rfl, W8, s8, t8, b8⟩ := TV.new (h := h) (l := uX) s7
  obtain ⟨i7, hi7⟩ : ∃ i, W7.heap.size = i := ⟨_, rfl⟩
  rw [hi7] at s8 t8
  have A4 : Hid (TV W8 i1 h g4 0 c4 lX ∧ RvAt W8 iv 28 vX.cs ∧ TV W8 i7 h g7 o7 c7 uX ∧ RvAt W8 ob 48 (outR 1 wi1 mX).cs ∧ Below w.heap.size w W8) := ⟨(A3.out.1.below b7).below b8, (A3.out.2.1.below b7).below b8, t8, ro.below b8, below_over (below_over A3.out.2.2 b7) b8⟩
  have l8 := A4.out.1.var.tld
  clear s7 b7 t8 b8 ro A3 l6 s6
  go_wp2_with fail
  refine (ppm_any h (some ⟨g4, 0, none⟩) 2 c4 lX 1 W8 A4.out.1.sl (by omega)).mono ?_
  rintro _ W9 ⟨a9, c9, rfl, s9, b9⟩
  rw [e3] at s9 ⊢
  obtain ⟨g9, o9, rfl, X, sX, tX, bX'⟩ := TV.new (h := h) (l := zX) s9
  obtain ⟨i9, hi9⟩ : ∃ i, W9.heap.size = i := ⟨_, rfl⟩
  rw [hi9] at sX tX
  have A5 : Hid (RvAt X iv 28 vX.cs ∧ TV X i7 h g7 o7 c7 uX ∧ RvAt X ob 48 (outR 1 wi1 mX).cs ∧ TV X i9 h g9 o9 c9 zX ∧ Below w.heap.size w X) := ⟨(A4.out.2.1.below b9).below bX', (A4.out.2.2.1.below b9).below bX', (A4.out.2.2.2.1.below b9).below bX', tX, below_over (below_over A4.out.2.2.2.2 b9) bX'⟩
  have lv := fun q : Later X => (A5.out.1.below q.below).ld rtV (by rw [Row.csize, lenV])
  have u16 := fun q : Later X => (A5.out.2.1.below q.below).var.t16
  have z16 := fun q : Later X => (A5.out.2.2.2.1.below q.below).var.t16
  have k0 := fun q : Later X => (A5.out.2.2.1.below q.below).num (j := 0) (k := .i64) rfl
  rw [Go.Proofs.Ytllmadgonobdnaa.o0] at k0
  have k1 := fun q : Later X => (A5.out.2.2.1.below q.below).num (j := 1) (k := .i64) rfl
  rw [o1] at k1
  have k8 := fun q : Later X => (A5.out.2.2.1.below q.below).num (j := 8) (k := .i64) rfl
  rw [o8] at k8
  have kv := fun q : Later X => (A5.out.2.2.1.below q.below).oV oXv
  have kb := fun q : Later X => (A5.out.2.1.below q.below).cell ((waiP (sntP qX)).bit (j := 11) rfl) (by omega)
  rw [n11] at kb
  have kn := fun q : Later X => (A5.out.2.1.below q.below).cell ((waiP (sntP qX)).num (j := 64) (k := .u8) rfl) (by omega)
  rw [n64] at kn
  have km := fun q : Later X => (A5.out.2.2.2.1.below q.below).cell ((chkP qX).num (j := 67) (k := .u8) rfl) (by omega)
  rw [n67] at km
  have ev : vX.eq vX = true := Row.eq_self vX
  have G : Hid (Below w.heap.size w X) := A5.out.2.2.2.2
  clear s9 b9 tX bX' A4 A5 l8 s8 hi7
  go_upto_region 6 with fail
  clear sX hi9
  refine wp_region_later (by kernel_rfl) (by kernel_rfl) ?_
  simp only [List.append_eq, List.cons_append, List.nil_append]
  repeat (go_big_quiet_step (first | exact rfl))
  refine wpQuiet_nil ?_
  rintro _ ⟨z, rfl⟩
  have F : Hid (Below w.heap.size w z.val) := below_over G.out z.below
  go_wp2
  go_ret
  exact ⟨rfl, F.out⟩
end Go.Proofs.Ytllmadgonobdnaa
