/-
  Ports of lists and trees' variables: what is stored, what stays. Plain laws over the program's types; the walks of the library's Clone and of Few. And what follows from it here.
-/
import Derived.Test.YtlchejbggnbccaaGreatBbb
import Derived.Test.YtlchejbggnbccaaGreatBba
import Derived.Deep.RegionHeld3
import Derived.Deep.Cut
import Derived.Deep.CutRange
namespace Go.Proofs.YtlchejbggnbccaaGreat
set_option linter.unusedVariables false
set_option linter.unusedSimpArgs false
set_option maxRecDepth 4000
section
namespace S15
open Go.RowKit

def gtP (l : List Pt) (i : Nat) : Pt := l.getD i zeroP
theorem gtP_at {l : List Pt} {i : Nat} (h : i < l.length) : l[i]? = some (gtP l i) := by
  simp [gtP, List.getD_eq_getElem?_getD, List.getElem?_eq_getElem h]
theorem one_t (w : World) (h : Hd) (x : Value) : ∃ W, w.alloc (.cells (trc h x) 39) = W ∧ RvAt W w.heap.size 39 (trc h x) ∧ Below w.heap.size w W ∧ W.heap.size = w.heap.size + 1 :=
  ⟨_, rfl, RvAt.new w _ _, (Below.refl _ _).alloc (Nat.le_refl _) _, by simp⟩
theorem bt_of {ks ks' : List (Option IntKind)} {r : Row ks} {q : Row ks'} {i j : Nat} (h : r.cl[i]? = q.cl[j]?) : r.bt i = q.bt j := by unfold Row.bt; rw [h]
theorem nm_of {ks ks' : List (Option IntKind)} {r : Row ks} {q : Row ks'} {i j : Nat} (h : r.cl[i]? = q.cl[j]?) : r.nm i = q.nm j := by unfold Row.nm; rw [h]
theorem setB_bt {ks : List (Option IntKind)} (r : Row ks) {i j : Nat} (h : ks[j]? = some none) (b : Bool) (hn : i ≠ j) : (r.setB j h b).bt i = r.bt i := bt_of (by rw [r.setB_get, if_neg hn])
theorem setB_nm {ks : List (Option IntKind)} (r : Row ks) {i j : Nat} (h : ks[j]? = some none) (b : Bool) (hn : i ≠ j) : (r.setB j h b).nm i = r.nm i := nm_of (by rw [r.setB_get, if_neg hn])
theorem wi0 : (Lit.int .i64 0).wf = true := by decide
theorem wi1 : (Lit.int .i64 1).wf = true := by decide
theorem wi2 : (Lit.int .i64 2).wf = true := by decide
theorem wi3 : (Lit.int .i64 3).wf = true := by decide
theorem gtP_set {l : List Pt} {i : Nat} {p : Pt} (h : i < l.length) : (l.set i p)[i]? = some p := by
  rw [List.getElem?_set, if_pos rfl, if_pos h]
theorem stW (x y : Value) : Instr.storeAt 72 x y = stS 72 x y := rfl
theorem infoS : (Tryz.prog.info? 72).map (·.size) = some 1 := by kernel_rfl
theorem set_self {l : List Pt} {k : Nat} (h : k < l.length) : l.set k (gtP l k) = l := by
  have : gtP l k = l[k] := by
    have := gtP_at h
    rw [List.getElem?_eq_getElem h] at this
    exact (Option.some.inj this).symm
  rw [this, List.set_getElem_self]
theorem var_p (W : World) (p : Pt) : ∃ W', (stS 74 (.pointer (some ⟨W.heap.size, 0, none⟩)) (.agg p.cs)).run Tryz.prog (W.alloc (.cells zeroP.cs 74)) = .ok () W' ∧ RvAt W' W.heap.size 74 p.cs ∧ Below W.heap.size W W' ∧ W'.heap.size = W.heap.size + 1 :=
  row_new rtP W zeroP.cs p.cs (by rw [Row.csize, lenP]) (by rw [Row.csize, lenP]) p.one'
structure TS (w W : World) (b d : Nat) (h : Hd) (x : Value) : Prop where
  var : RvAt W b 39 (trc h x)
  out : RvAt W d 39 (trc zeroH (.slice none 0 0))
  bel : Below w.heap.size w W
  hd : w.heap.size ≤ d
theorem TS.below {w W V : World} {b d : Nat} {h : Hd} {x : Value} (s : TS w W b d h x) (k : Below W.heap.size W V) : TS w V b d h x := ⟨s.var.below k, s.out.below k, below_over s.bel k, s.hd⟩
theorem TS.tell {w W : World} {b d : Nat} {h : Hd} {x : Value} (s : TS w W b d h x) {y : Value} (hy : y.oneCell' = true) : ∃ U, (stS 39 (.pointer (some ⟨d, 0, none⟩)) (.agg (trc h y))).run Tryz.prog W = .ok () U ∧ RvAt U d 39 (trc h y) ∧ Below w.heap.size w U ∧ W.grownBy U (some d) := by
  obtain ⟨U, e, h1, g⟩ := s.out.tst (g := h) (y := y) hy
  exact ⟨U, e, h1, gro s.bel g s.hd s.bel.size, g⟩
theorem results_tb {fn : Func} {k t : Nat} (hr : fn.results = #[.cell k 39, .tmp t]) (tmps : Array Value) (w : World) (b : Nat) (h : Hd) (x : Value) (h2 : tmps.getD k undef = .pointer (some ⟨b, 0, none⟩)) (r : RvAt w b 39 (trc h x)) :
    (results fn tmps).run Tryz.prog w = .ok (.tuple #[.agg (trc h x), tmps.getD t undef]) w := by
  have hl := r.lv rtT (trc_size h x)
  have h2' : tmps[k]?.getD undef = .pointer (some ⟨b, 0, none⟩) := by simpa using h2
  simp [results, hr, asAddr, hl, h2']
structure TP (w W : World) (t d z : Nat) (h : Hd) (g o n c : Nat) (l : List Pt) (p : Pt) : Prop where
  tre : TS w W t d h (.slice (some ⟨g, o, none⟩) n c)
  sl : SlAt W (some ⟨g, o, none⟩) n c l
  pv : RvAt W z 74 p.cs
  hz : w.heap.size ≤ z
  lt : g < w.heap.size
theorem TP.below {w W V : World} {t d z g o n c : Nat} {h : Hd} {l : List Pt} {p : Pt} (s : TP w W t d z h g o n c l p) (e : Below W.heap.size W V) : TP w V t d z h g o n c l p := ⟨s.tre.below e, s.sl.below e, s.pv.below e, s.hz, s.lt⟩
attribute [local go_sem ↓] ldP stP ldT stT apE st32
attribute [local go_sem ↓] slP
end S15
end
section
namespace S15
open Go.RowKit

theorem kb23 : kdP[23]? = some none := rfl
theorem kb26 : kdP[26]? = some none := rfl
theorem ku64 : kdP[64]? = some (some .u8) := rfl
theorem ku66 : kdP[66]? = some (some .u8) := rfl
theorem ku67 : kdP[67]? = some (some .u8) := rfl
theorem kn75 : kdP[75]? = some (some .i64) := rfl
theorem kn76 : kdP[76]? = some (some .i64) := rfl
theorem km0 : kdM[0]? = some (some .i64) := rfl
theorem km1 : kdM[1]? = some none := rfl
theorem km2 : kdM[2]? = some none := rfl
theorem km3 : kdM[3]? = some none := rfl
theorem km4 : kdM[4]? = some none := rfl
theorem km5 : kdM[5]? = some none := rfl
theorem km6 : kdM[6]? = some none := rfl
theorem km7 : kdM[7]? = some (some .i64) := rfl
theorem mq8 : (kdM.drop 8).take kdV.length = kdV := rfl
theorem ml8 : 8 + kdV.length ≤ kdM.length := by decide
theorem mq12 : (kdM.drop 12).take kdT.length = kdT := rfl
theorem ml12 : 12 + kdT.length ≤ kdM.length := by decide
def dsT (p : Pt) : Tm := ⟨(p.cl.drop 40).take 4, (p.sub 40 4).ok⟩
theorem _root_.Go.Proofs.YtlchejbggnbccaaGreat.RvAt.pdsT15 {W : World} {b : Nat} {p : Pt} (hb : RvAt W b 74 p.cs) : (ldS 24 (.pointer (some ⟨b, 40, none⟩))).run Tryz.prog W = .ok (.agg (dsT p).cs) W := hb.part rfl rfl Tryz.underlying24 rfl infoTm
def rolN (r : Int) : Int := if r = 2 then 1 else if r = 1 ∨ r = 3 ∨ r = 4 then r else 0
theorem rol_is (r : Int) : rolN r = 0 ∨ rolN r = 1 ∨ rolN r = 3 ∨ rolN r = 4 := by
  unfold rolN
  split
  · exact Or.inr (Or.inl rfl)
  · split
    · omega
    · exact Or.inl rfl
theorem rol_wf (r : Int) : (Lit.int .i64 (rolN r)).wf = true := by
  rcases rol_is r with h | h | h | h <;> rw [h] <;> decide
def tcB (p : Pt) : Bool := !(p.nm 71 == 0)
def rstM (p : Pt) : Mg := ((((((((((zeroM.setN 0 km0 3 wi3).setN 7 km7 (rolN (p.nm 30)) (rol_wf _)).setB 3 km3 (p.bt 13)).setB 6 km6 (p.bt 3)).setB 4 km4 (p.bt 10)).setB 5 km5 (p.bt 8)).setB 1 km1 (tcB p)).setB 2 km2 false).put 8 (dsg p) mq8 ml8).put 12 (dsT p) mq12 ml12)
def cfgM (p : Pt) : Mg := ((((zeroM.setN 0 km0 1 wi1).setB 1 km1 (tcB p)).setB 2 km2 (p.bt 26)).put 8 (dsg p) mq8 ml8).put 12 (dsT p) mq12 ml12
def tcnM : Mg := zeroM.setN 0 km0 2 wi2
def kinN (p : Pt) : Int := if p.bt 23 = true then 3 else if p.nm 30 = 4 then 1 else 2
def msgP (p : Pt) : Mg := if p.bt 23 = true then rstM p else if p.nm 30 = 4 then cfgM p else tcnM
def voiB (p : Pt) : Bool := p.bt 23 || (p.nm 30 == 3) || (p.nm 30 == 4)
def begP (p : Pt) : Pt := ((p.setB 11 kb11 true).setU 64 0).setN 75 kn75 1 wi1
def remB (p : Pt) : Bool := p.bt 11 || (p.nm 30 == 4) || ((p.nm 30 == 3) && !(p.nm 71 == 0))
def remP (p : Pt) : Pt := p.setB 11 kb11 (remB p)
def waiN (p : Pt) : Int := if p.nm 42 = 0 then 1 else p.nm 42
def waiP (p : Pt) : Pt := p.setU 66 (waiN p)
def ackB (p : Pt) : Bool := p.bt 26 && (kinN p == 2)
def sntP (p : Pt) : Pt := ((p.setB 11 kb11 false).setU 64 (p.nm 64 + 1)).setB 26 kb26 (ackB p)
def ptxC (h : Hd) (p : Pt) : Nat :=
  if p.nm 75 = 1 then
    if p.bt 22 = true ∧ p.bt 28 = false then
      if p.nm 66 = 0 then 2
      else if p.bt 2 = true ∧ p.bt 11 = true ∧ p.nm 64 < h.nm 5 ∧ voiB p = true then 3 else 0
    else 0
  else 1
def ptxQ (p : Pt) : Nat → Pt
  | 0 => p
  | 1 => waiP (begP p)
  | 2 => waiP (remP p)
  | _ => waiP (sntP p)
def chkP (p : Pt) : Pt := ((p.setB 23 kb23 true).setU 67 3).setN 76 kn76 1 wi1
def senP (p : Pt) : Pt := ((p.setB 15 kb15 false).setB 16 kb16 false).setN 76 kn76 3 wi3
def falP (p : Pt) : Pt := ((p.setB 23 kb23 false).setU 67 3).setN 76 kn76 2 wi2
def ppmC (p : Pt) : Nat :=
  if p.nm 76 = 1 then (if p.bt 2 = false ∧ p.nm 67 ≠ 3 then 1 else if p.nm 67 = 0 then 2 else 0)
  else if p.nm 76 = 3 then (if p.bt 2 = false ∨ p.bt 23 = false ∧ p.bt 15 = true then 1 else if p.bt 23 = true ∧ p.bt 16 = true then 3 else 0)
  else if p.nm 76 = 2 then (if p.nm 67 = 0 ∨ p.bt 2 = false then 2 else 0)
  else 1
def ppmQ (p : Pt) : Nat → Pt
  | 0 => p
  | 1 => chkP p
  | 2 => senP p
  | _ => falP p
theorem u0 : (0 : Int) ≤ 0 ∧ (0 : Int) ≤ 255 := by decide
theorem u3 : (0 : Int) ≤ 3 ∧ (3 : Int) ≤ 255 := by decide
theorem wai_in (p : Pt) : 0 ≤ waiN p ∧ waiN p ≤ 255 := by
  have := p.u8 (j := 42) rfl
  unfold waiN
  split <;> omega
theorem setU_bt {ks : List (Option IntKind)} (r : Row ks) {i j : Nat} {n : Int} (h : j ≠ i) : (r.setU j n).bt i = r.bt i := bt_of (r.setU_ne h)
def kdO : List (Option IntKind) := some .i64 :: kdM
abbrev Ot := Row kdO
theorem lenO : kdO.length = 17 := rfl
theorem fits_cons {k : Option IntKind} {ks : List (Option IntKind)} {v : Value} {l : List Value} (h : Fit k v) (g : Fits ks l) : Fits (k :: ks) (v :: l) := by
  refine ⟨by simp [g.len], fun j q x hq hx => ?_⟩
  cases j with
  | zero => cases hq; cases hx; exact h
  | succ j => exact g.at' j q x (by simpa using hq) (by simpa using hx)
def outR (i : Int) (h : (Lit.int .i64 i).wf = true) (m : Mg) : Ot := ⟨.int .i64 i :: m.cl, fits_cons ⟨i, rfl, h⟩ m.ok⟩
end S15
end
section
namespace S15
open Go.RowKit

def Fr (w : World) (a a' : Option Addr) : Prop := a' = a ∨ ∀ x, a' = some x → w.heap.size ≤ x.block
abbrev TBf (w : World) (h : Hd) (a : Option Addr) (n : Nat) (l : List Pt) (O : Option (List Pt)) (r : Ending) (w' : World) : Prop := ∃ a' c', r = .returned (.tuple #[.agg (trc h (.slice a' n c')), .bool O.isSome]) ∧ Fr w a a' ∧ SlAt w' a' n c' (O.getD l) ∧ Below w.heap.size w w'
def ppmO (l : List Pt) (k : Nat) : Option (List Pt) := if ppmC (gtP l k) = 0 then none else some (l.set k (ppmQ (gtP l k) (ppmC (gtP l k))))
theorem ppmO_no {l : List Pt} {k : Nat} (h : ppmC (gtP l k) = 0) : ppmO l k = none := if_pos h
theorem ppmO_yes {l : List Pt} {k c : Nat} (h : ppmC (gtP l k) = c) (h0 : c ≠ 0) : ppmO l k = some (l.set k (ppmQ (gtP l k) c)) := by
  unfold ppmO
  rw [h, if_neg h0]
end S15
end
section
namespace S15
open Go.RowKit

def bdM (ps : Array (Nat × Value)) : Sem Value := Instr.build 46 ps
theorem bdMs (ps : Array (Nat × Value)) : Instr.build 46 ps = bdM ps := rfl
theorem bdM_kind {k : Int} (hk : (Lit.int .i64 k).wf = true) (w : World) : (bdM #[(0, .int .i64 k)]).run Tryz.prog w = .ok (.agg (zeroM.setN 0 km0 k hk).cs) w := by
  have h : (bdM #[(0, .int .i64 k)]).run Tryz.prog w = .ok (.agg (zeroM.cl.set 0 (.int .i64 k)).toArray) w := by kernel_rfl
  rw [h]
  rfl
attribute [local go_sem ↓] ldP stP stB stU stW ldT stT st32 alP alM ldM stM ldV stV ldTm stTm bdMs
attribute [local go_sem] alP_run alM_run
theorem kin_any (p : Pt) (w : World) : Calls Tryz.prog 220 #[.agg p.cs] w fun r w' => r = .returned (.int .i64 (kinN p)) ∧ Below w.heap.size w w' := by
  obtain ⟨W, hW, r0, bW, zW⟩ := new_p w p
  have c23 := r0.bit (j := 23) rfl
  have c30 := r0.num (j := 30) (k := .i64) rfl
  have H : Hid (Below w.heap.size w W) := bW
  obtain ⟨K, hK⟩ : ∃ z, kinN p = z := ⟨_, rfl⟩
  rw [hK]
  have E : Hid (kinN p = K) := hK
  clear r0 bW zW hK
  cases h23 : p.bt 23
  · rw [h23] at c23
    by_cases h4 : p.nm 30 = 4
    · have E2 : Hid (K = 1) := by rw [← E.out]; unfold kinN; rw [if_neg (by rw [h23]; decide), if_pos h4]; exact rfl
      rw [h4] at c30
      clear E h23 h4
      go_enter Tryz.func220, Tryz.ntmps220
      go_wp2
      go_ret
      exact ⟨by rw [E2.out]; rfl, H.out⟩
    · have E2 : Hid (K = 2) := by rw [← E.out]; unfold kinN; rw [if_neg (by rw [h23]; decide), if_neg h4]; exact rfl
      have x4 : (p.nm 30 == 4) = false := beq_eq_false_iff_ne.2 h4
      clear E h23 h4
      go_enter Tryz.func220, Tryz.ntmps220
      go_wp2
      go_ret
      exact ⟨by rw [E2.out]; rfl, H.out⟩
  · have E2 : Hid (K = 3) := by rw [← E.out]; unfold kinN; rw [if_pos h23]; exact rfl
    rw [h23] at c23
    clear E h23
    go_enter Tryz.func220, Tryz.ntmps220
    go_wp2
    go_ret
    exact ⟨by rw [E2.out]; rfl, H.out⟩
theorem tro_any (r : Int) (w : World) : Calls Tryz.prog 221 #[.int .i64 r] w fun e w' => e = .returned (.int .i64 (rolN r)) ∧ Below w.heap.size w w' := by
  by_cases h2 : r = 2
  · subst h2
    rw [show rolN 2 = 1 from rfl]
    go_enter Tryz.func221, Tryz.ntmps221
    go_wp2
    go_ret
    exact ⟨rfl, Below.refl _ _⟩
  have x2 : (r == 2) = false := beq_eq_false_iff_ne.2 h2
  by_cases h1 : r = 1
  · subst h1
    clear x2 h2
    rw [show rolN 1 = 1 from rfl]
    go_enter Tryz.func221, Tryz.ntmps221
    go_wp2
    go_ret
    exact ⟨rfl, Below.refl _ _⟩
  have x1 : (r == 1) = false := beq_eq_false_iff_ne.2 h1
  by_cases h3 : r = 3
  · subst h3
    clear x2 h2
    clear x1 h1
    rw [show rolN 3 = 3 from rfl]
    go_enter Tryz.func221, Tryz.ntmps221
    go_wp2
    go_ret
    exact ⟨rfl, Below.refl _ _⟩
  have x3 : (r == 3) = false := beq_eq_false_iff_ne.2 h3
  by_cases h4 : r = 4
  · subst h4
    clear x2 h2
    clear x1 h1
    clear x3 h3
    rw [show rolN 4 = 4 from rfl]
    go_enter Tryz.func221, Tryz.ntmps221
    go_wp2
    go_ret
    exact ⟨rfl, Below.refl _ _⟩
  have x4 : (r == 4) = false := beq_eq_false_iff_ne.2 h4
  have e0 : rolN r = 0 := by unfold rolN; rw [if_neg h2, if_neg (by rintro (h | h | h) <;> contradiction)]
  rw [e0]
  clear h1 h2 h3 h4 e0
  go_enter Tryz.func221, Tryz.ntmps221
  go_wp2
  go_ret
  exact ⟨rfl, Below.refl _ _⟩
theorem voi_any (p : Pt) (w : World) : Calls Tryz.prog 179 #[.agg p.cs] w fun r w' => r = .returned (.bool (voiB p)) ∧ Below w.heap.size w w' := by
  obtain ⟨W, hW, r0, bW, zW⟩ := new_p w p
  have c23 := r0.bit (j := 23) rfl
  have c30 := r0.num (j := 30) (k := .i64) rfl
  have H : Hid (Below w.heap.size w W) := bW
  obtain ⟨K, hK⟩ : ∃ z, voiB p = z := ⟨_, rfl⟩
  rw [hK]
  obtain ⟨b, hb⟩ : ∃ z, p.bt 23 = z := ⟨_, rfl⟩
  obtain ⟨N, hN⟩ : ∃ z, p.nm 30 = z := ⟨_, rfl⟩
  have E : Hid ((b || (N == 3) || (N == 4)) = K) := by rw [← hb, ← hN]; exact hK
  rw [hb] at c23
  rw [hN] at c30
  clear r0 bW zW hK hb hN
  cases b
  · by_cases h3 : N = 3
    · subst h3
      go_enter Tryz.func179, Tryz.ntmps179
      go_wp2
      go_ret
      exact ⟨by rw [← E.out]; rfl, H.out⟩
    · have x3 : (N == 3) = false := beq_eq_false_iff_ne.2 h3
      clear h3
      go_enter Tryz.func179, Tryz.ntmps179
      go_wp2
      go_ret
      exact ⟨by rw [← E.out, x3]; rfl, H.out⟩
  · go_enter Tryz.func179, Tryz.ntmps179
    go_wp2
    go_ret
    exact ⟨by rw [← E.out]; rfl, H.out⟩
structure MS (w W : World) (b d z : Nat) (p : Pt) (m : Mg) : Prop where
  pv : RvAt W b 74 p.cs
  out : RvAt W d 46 zeroM.cs
  mv : RvAt W z 46 m.cs
  bel : Below w.heap.size w W
  hd : w.heap.size ≤ d
  hz : w.heap.size ≤ z
  ne : d ≠ z
theorem MS.below {w W V : World} {b d z : Nat} {p : Pt} {m : Mg} (s : MS w W b d z p m) (k : Below W.heap.size W V) : MS w V b d z p m := ⟨s.pv.below k, s.out.below k, s.mv.below k, below_over s.bel k, s.hd, s.hz, s.ne⟩
theorem MS.drew' {w W V : World} {b d z : Nat} {p : Pt} {m : Mg} (s : MS w W b d z p m) (h : World.drew W = V) : MS w V b d z p m := by rw [← h]; exact s.below (Below.refl _ _).drew
theorem MS.go {w W V : World} {b d z : Nat} {p : Pt} {m m' : Mg} (s : MS w W b d z p m) (r : RvAt V z 46 m'.cs) (g : W.grownBy V (some z)) : MS w V b d z p m' :=
  have n1 : b ≠ z := s.pv.apart s.mv (by decide)
  ⟨s.pv.keptBut g (by simpa using n1), s.out.keptBut g (by have := s.ne; simpa using this), r, gro s.bel g s.hz s.bel.size, s.hd, s.hz, s.ne⟩
theorem MS.setB {w W : World} {b d z j : Nat} {p : Pt} {m : Mg} (s : MS w W b d z p m) (hk : kdM[j]? = some none) (x : Bool) : ∃ V, (stS 4 (.pointer (some ⟨z, j, none⟩)) (.bool x)).run Tryz.prog W = .ok () V ∧ MS w V b d z p (m.setB j hk x) := by
  obtain ⟨V, e, h1, g⟩ := s.mv.setB hk x
  exact ⟨V, e, s.go h1 g⟩
theorem MS.setN {w W : World} {b d z j : Nat} {p : Pt} {m : Mg} (s : MS w W b d z p m) {t : TypeId} (ht : (Tryz.prog.info? t).map (·.size) = some 1) (hk : kdM[j]? = some (some .i64)) {x : Int} (hx : (Lit.int .i64 x).wf = true) : ∃ V, (stS t (.pointer (some ⟨z, j, none⟩)) (.int .i64 x)).run Tryz.prog W = .ok () V ∧ MS w V b d z p (m.setN j hk x hx) := by
  obtain ⟨V, e, h1, g⟩ := s.mv.rset (v := .int .i64 x) ht (List.getElem?_eq_some_iff.1 hk).1 rfl (fit_num hk hx)
  exact ⟨V, e, s.go h1 g⟩
theorem MS.putV {w W : World} {b d z : Nat} {p : Pt} {m : Mg} (s : MS w W b d z p m) (v : Vc) : ∃ V, (stS 36 (.pointer (some ⟨z, 8, none⟩)) (.agg v.cs)).run Tryz.prog W = .ok () V ∧ MS w V b d z p (m.put 8 v mq8 ml8) := by
  obtain ⟨V, e, h1, g⟩ := s.mv.rput v mq8 ml8 infoV
  exact ⟨V, e, s.go h1 g⟩
theorem MS.putT {w W : World} {b d z : Nat} {p : Pt} {m : Mg} (s : MS w W b d z p m) (v : Tm) : ∃ V, (stS 24 (.pointer (some ⟨z, 12, none⟩)) (.agg v.cs)).run Tryz.prog W = .ok () V ∧ MS w V b d z p (m.put 12 v mq12 ml12) := by
  obtain ⟨V, e, h1, g⟩ := s.mv.rput v mq12 ml12 infoTm
  exact ⟨V, e, s.go h1 g⟩
theorem mst {W : World} {b : Nat} {m r : Mg} (hb : RvAt W b 46 m.cs) : ∃ V, (stS 46 (.pointer (some ⟨b, 0, none⟩)) (.agg r.cs)).run Tryz.prog W = .ok () V ∧ RvAt V b 46 r.cs ∧ W.grownBy V (some b) :=
  ⟨W.setRow b r.cs, hb.st rtM (by rw [Row.csize, lenM]) (by rw [Row.csize, lenM]) r.one', hb.set, grown_row _ _ _⟩
theorem MS.tell {w W : World} {b d z : Nat} {p : Pt} {m : Mg} (s : MS w W b d z p m) (r : Mg) : ∃ U, (stS 46 (.pointer (some ⟨d, 0, none⟩)) (.agg r.cs)).run Tryz.prog W = .ok () U ∧ RvAt U d 46 r.cs ∧ Below w.heap.size w U := by
  obtain ⟨U, e, h1, g⟩ := mst (r := r) s.out
  exact ⟨U, e, h1, gro s.bel g s.hd s.bel.size⟩
theorem var_m (W : World) (m : Mg) : ∃ W', (stS 46 (.pointer (some ⟨W.heap.size, 0, none⟩)) (.agg m.cs)).run Tryz.prog (W.alloc (.cells zeroM.cs 46)) = .ok () W' ∧ RvAt W' W.heap.size 46 m.cs ∧ Below W.heap.size W W' ∧ W'.heap.size = W.heap.size + 1 :=
  row_new rtM W _ _ (by rw [Row.csize, lenM]) (by rw [Row.csize, lenM]) m.one'
theorem new_pm (w : World) (p : Pt) : ∃ W, (w.alloc (.cells p.cs 74)).alloc (.cells zeroM.cs 46) = W ∧ RvAt W w.heap.size 74 p.cs ∧ RvAt W (w.heap.size + 1) 46 zeroM.cs ∧ Below w.heap.size w W ∧ W.heap.size = w.heap.size + 2 := by
  obtain ⟨A, hA, rA, bA, zA⟩ := new_p w p
  have rC := RvAt.new A 46 zeroM.cs
  have bC : Below A.heap.size A (A.alloc (.cells zeroM.cs 46)) := (Below.refl _ _).alloc (Nat.le_refl _) _
  rw [zA] at rC
  refine ⟨_, rfl, ?_⟩
  rw [hA]
  exact ⟨rA.below bC, rC, below_over bA bC, by simp; omega⟩
end S15
end
section
namespace S15
open Go.RowKit

theorem mg_cl (m : Mg) : m.cl = [.int .i64 (m.nm 0), .bool (m.bt 1), .bool (m.bt 2), .bool (m.bt 3), .bool (m.bt 4), .bool (m.bt 5), .bool (m.bt 6), .int .i64 (m.nm 7), .int .u64 (m.nm 8), .int .u32 (m.nm 9), .int .u64 (m.nm 10), .int .u16 (m.nm 11), .int .u8 (m.nm 12), .int .u8 (m.nm 13), .int .u8 (m.nm 14), .int .u8 (m.nm 15)] := by
  have h0 := m.num (j := 0) (k := .i64) rfl
  have h1 := m.bit (j := 1) rfl
  have h2 := m.bit (j := 2) rfl
  have h3 := m.bit (j := 3) rfl
  have h4 := m.bit (j := 4) rfl
  have h5 := m.bit (j := 5) rfl
  have h6 := m.bit (j := 6) rfl
  have h7 := m.num (j := 7) (k := .i64) rfl
  have h8 := m.num (j := 8) (k := .u64) rfl
  have h9 := m.num (j := 9) (k := .u32) rfl
  have h10 := m.num (j := 10) (k := .u64) rfl
  have h11 := m.num (j := 11) (k := .u16) rfl
  have h12 := m.num (j := 12) (k := .u8) rfl
  have h13 := m.num (j := 13) (k := .u8) rfl
  have h14 := m.num (j := 14) (k := .u8) rfl
  have h15 := m.num (j := 15) (k := .u8) rfl
  have hl := m.len
  rw [lenM] at hl
  generalize m.cl = x at *
  match x, hl with
  | [a0, a1, a2, a3, a4, a5, a6, a7, a8, a9, a10, a11, a12, a13, a14, a15], _ =>
    simp only [List.getElem?_cons_zero, List.getElem?_cons_succ, Option.some.injEq] at h0 h1 h2 h3 h4 h5 h6 h7 h8 h9 h10 h11 h12 h13 h14 h15
    rw [h0, h1, h2, h3, h4, h5, h6, h7, h8, h9, h10, h11, h12, h13, h14, h15]
theorem mg_cs (m : Mg) : m.cs = #[.int .i64 (m.nm 0), .bool (m.bt 1), .bool (m.bt 2), .bool (m.bt 3), .bool (m.bt 4), .bool (m.bt 5), .bool (m.bt 6), .int .i64 (m.nm 7), .int .u64 (m.nm 8), .int .u32 (m.nm 9), .int .u64 (m.nm 10), .int .u16 (m.nm 11), .int .u8 (m.nm 12), .int .u8 (m.nm 13), .int .u8 (m.nm 14), .int .u8 (m.nm 15)] := by
  show m.cl.toArray = _
  rw [mg_cl]
theorem ot_cs (i : Int) (h : (Lit.int .i64 i).wf = true) (m : Mg) : (outR i h m).cs = #[.int .i64 i, .int .i64 (m.nm 0), .bool (m.bt 1), .bool (m.bt 2), .bool (m.bt 3), .bool (m.bt 4), .bool (m.bt 5), .bool (m.bt 6), .int .i64 (m.nm 7), .int .u64 (m.nm 8), .int .u32 (m.nm 9), .int .u64 (m.nm 10), .int .u16 (m.nm 11), .int .u8 (m.nm 12), .int .u8 (m.nm 13), .int .u8 (m.nm 14), .int .u8 (m.nm 15)] := by
  show (.int .i64 i :: m.cl).toArray = _
  rw [mg_cl]
def bdO (ps : Array (Nat × Value)) : Sem Value := Instr.build 91 ps
theorem bdOs (ps : Array (Nat × Value)) : Instr.build 91 ps = bdO ps := rfl
def bsO (n : Nat) (ps : Array (Nat × Value)) : Sem Value := Instr.buildSlice 49 n ps
theorem bsOs (n : Nat) (ps : Array (Nat × Value)) : Instr.buildSlice 49 n ps = bsO n ps := rfl
theorem bdO0 (i x0 : Int) (x1 x2 x3 x4 x5 x6 : Bool) (x7 x8 x9 x10 x11 x12 x13 x14 x15 : Int) (w : World) : (bdO #[(0, .int .i64 i), (1, .agg #[.int .i64 x0, .bool x1, .bool x2, .bool x3, .bool x4, .bool x5, .bool x6, .int .i64 x7, .int .u64 x8, .int .u32 x9, .int .u64 x10, .int .u16 x11, .int .u8 x12, .int .u8 x13, .int .u8 x14, .int .u8 x15])]).run Tryz.prog w = .ok (.agg #[.int .i64 i, .int .i64 x0, .bool x1, .bool x2, .bool x3, .bool x4, .bool x5, .bool x6, .int .i64 x7, .int .u64 x8, .int .u32 x9, .int .u64 x10, .int .u16 x11, .int .u8 x12, .int .u8 x13, .int .u8 x14, .int .u8 x15]) w := by kernel_rfl
theorem bsO0 (i x0 : Int) (x1 x2 x3 x4 x5 x6 : Bool) (x7 x8 x9 x10 x11 x12 x13 x14 x15 : Int) (w : World) : (bsO 1 #[(0, .agg #[.int .i64 i, .int .i64 x0, .bool x1, .bool x2, .bool x3, .bool x4, .bool x5, .bool x6, .int .i64 x7, .int .u64 x8, .int .u32 x9, .int .u64 x10, .int .u16 x11, .int .u8 x12, .int .u8 x13, .int .u8 x14, .int .u8 x15])]).run Tryz.prog w = .ok (.slice (some ⟨w.heap.size, 0, none⟩) 1 1) (w.alloc (.cells #[.int .i64 i, .int .i64 x0, .bool x1, .bool x2, .bool x3, .bool x4, .bool x5, .bool x6, .int .i64 x7, .int .u64 x8, .int .u32 x9, .int .u64 x10, .int .u16 x11, .int .u8 x12, .int .u8 x13, .int .u8 x14, .int .u8 x15] 91)) := by kernel_rfl
theorem bdO_is (i : Int) (h : (Lit.int .i64 i).wf = true) (m : Mg) (w : World) : (bdO #[(0, .int .i64 i), (1, .agg m.cs)]).run Tryz.prog w = .ok (.agg (outR i h m).cs) w := by
  rw [ot_cs, mg_cs]
  exact bdO0 ..
theorem bsO_is (i : Int) (h : (Lit.int .i64 i).wf = true) (m : Mg) (w : World) : (bsO 1 #[(0, .agg (outR i h m).cs)]).run Tryz.prog w = .ok (.slice (some ⟨w.heap.size, 0, none⟩) 1 1) (w.alloc (.cells (outR i h m).cs 91)) := by
  rw [ot_cs]
  exact bsO0 ..
theorem new_ot (w : World) (cs : Array Value) : ∃ W, w.alloc (.cells cs 91) = W ∧ RvAt W w.heap.size 91 cs ∧ Below w.heap.size w W :=
  ⟨_, rfl, RvAt.new w _ _, (Below.refl _ _).alloc (Nat.le_refl _) _⟩
def OutAt (w : World) (v : Value) : Option Ot → Prop
  | none => v = .slice none 0 0
  | some r => ∃ b, v = .slice (some ⟨b, 0, none⟩) 1 1 ∧ RvAt w b 91 r.cs
abbrev TOf (w : World) (h : Hd) (a : Option Addr) (n : Nat) (l : List Pt) (O : Option (List Pt)) (u : Option Ot) (r : Ending) (w' : World) : Prop := ∃ a' c' v, r = .returned (.tuple #[.agg (trc h (.slice a' n c')), v, .bool O.isSome]) ∧ SlAt w' a' n c' (O.getD l) ∧ OutAt w' v u ∧ Below w.heap.size w w' ∧ Fro w a a'
def ptxO (h : Hd) (l : List Pt) (k : Nat) : Option (List Pt) := if ptxC h (gtP l k) = 0 then none else some (l.set k (ptxQ (gtP l k) (ptxC h (gtP l k))))
theorem ptxO_no {h : Hd} {l : List Pt} {k : Nat} (e : ptxC h (gtP l k) = 0) : ptxO h l k = none := if_pos e
theorem ptxO_yes {h : Hd} {l : List Pt} {k c : Nat} (e : ptxC h (gtP l k) = c) (h0 : c ≠ 0) : ptxO h l k = some (l.set k (ptxQ (gtP l k) c)) := by
  unfold ptxO
  rw [e, if_neg h0]
def outI (i : Int) (m : Mg) : Ot := if h : (Lit.int .i64 i).wf = true then outR i h m else outR 0 wi0 m
theorem outI_is {i : Int} (h : (Lit.int .i64 i).wf = true) (m : Mg) : outI i m = outR i h m := dif_pos h
def ptxU (h : Hd) (l : List Pt) (k : Nat) : Option Ot := if ptxC h (gtP l k) = 3 then some (outI (k : Int) (msgP (gtP l k))) else none
theorem ptxU_no {h : Hd} {l : List Pt} {k c : Nat} (e : ptxC h (gtP l k) = c) (h0 : c ≠ 3) : ptxU h l k = none := if_neg (by rw [e]; exact h0)
theorem ptxU_yes {h : Hd} {l : List Pt} {k : Nat} (e : ptxC h (gtP l k) = 3) : ptxU h l k = some (outI (k : Int) (msgP (gtP l k))) := if_pos e
theorem wi_k {k : Nat} (h : k ≤ 1000) : (Lit.int .i64 (k : Int)).wf = true := by
  simp [Lit.wf, IntKind.min, IntKind.max, IntKind.signed, IntKind.bits]
  omega
theorem results_tob {fn : Func} {k t s : Nat} (hr : fn.results = #[.cell k 39, .tmp t, .tmp s]) (tmps : Array Value) (w : World) (b : Nat) (h : Hd) (x : Value) (h2 : tmps.getD k undef = .pointer (some ⟨b, 0, none⟩)) (r : RvAt w b 39 (trc h x)) :
    (results fn tmps).run Tryz.prog w = .ok (.tuple #[.agg (trc h x), tmps.getD t undef, tmps.getD s undef]) w := by
  have hl := r.lv rtT (trc_size h x)
  have h2' : tmps[k]?.getD undef = .pointer (some ⟨b, 0, none⟩) := by simpa using h2
  simp [results, hr, asAddr, hl, h2']
theorem msg_kind (p : Pt) : (msgP p).nm 0 = kinN p := by
  unfold msgP kinN
  split
  · rfl
  · split <;> rfl
end S15
end
section
namespace S15
open Go.RowKit

structure PQ (w W : World) (g c i q : Nat) (l : List Pt) (p : Pt) : Prop where
  pat : PAt W g c (l.set i p)
  gr : w.grownBy W (some g)
  hi : i < l.length
  hq : q = i * 77
theorem PQ.start {W : World} {g c i q : Nat} {l : List Pt} {p : Pt} (h : PAt W g c l) (hp : l[i]? = some p) (hq : q = i * 77) : PQ W W g c i q l p := by
  have hi : i < l.length := (List.getElem?_eq_some_iff.1 hp).1
  refine ⟨?_, World.grownBy.refl _ _, hi, hq⟩
  have e : gtP l i = p := by
    have := gtP_at hi
    rw [hp] at this
    exact (Option.some.inj this).symm
  rw [← e, set_self hi]
  exact h
theorem PQ.at' {w W : World} {g c i q : Nat} {l : List Pt} {p : Pt} (s : PQ w W g c i q l p) : (l.set i p)[i]? = some p := by
  rw [List.getElem?_set, if_pos rfl, if_pos s.hi]
theorem PQ.go {w W V : World} {g c i q : Nat} {l : List Pt} {p r : Pt} (s : PQ w W g c i q l p) (hp : PAt V g c ((l.set i p).set i r)) (e : W.grownBy V (some g)) : PQ w V g c i q l r :=
  ⟨by rw [List.set_set] at hp; exact hp, grown_self s.gr e, s.hi, s.hq⟩
theorem PQ.setB {w W : World} {g c i q j : Nat} {l : List Pt} {p : Pt} (s : PQ w W g c i q l p) (hk : kdP[j]? = some none) (x : Bool) : ∃ V, (stS 4 (.pointer (some ⟨g, q + j, none⟩)) (.bool x)).run Tryz.prog W = .ok () V ∧ PQ w V g c i q l (p.setB j hk x) := by
  obtain ⟨V, e, h1, g1⟩ := s.pat.st1 (q := q + j) (v := .bool x) s.at' info2.1 (by rw [← lenP]; exact (List.getElem?_eq_some_iff.1 hk).1) rfl (fit_bit hk) (by rw [s.hq])
  exact ⟨V, e, s.go h1 g1⟩
theorem PQ.setU {w W : World} {g c i q j : Nat} {l : List Pt} {p : Pt} (s : PQ w W g c i q l p) (hk : kdP[j]? = some (some .u8)) {x : Int} (hx : 0 ≤ x ∧ x ≤ 255) : ∃ V, (stS 5 (.pointer (some ⟨g, q + j, none⟩)) (.int .u8 x)).run Tryz.prog W = .ok () V ∧ PQ w V g c i q l (p.setU j x) := by
  obtain ⟨V, e, h1, g1⟩ := s.pat.st1 (q := q + j) (v := .int .u8 x) s.at' info2.2 (by rw [← lenP]; exact (List.getElem?_eq_some_iff.1 hk).1) rfl (fit_num hk (wf8 hx)) (by rw [s.hq])
  rw [p.setU_is hk (wf8 hx)]
  exact ⟨V, e, s.go h1 g1⟩
theorem PQ.setN {w W : World} {g c i q j : Nat} {l : List Pt} {p : Pt} (s : PQ w W g c i q l p) {t : TypeId} (ht : (Tryz.prog.info? t).map (·.size) = some 1) (hk : kdP[j]? = some (some .i64)) {x : Int} (hx : (Lit.int .i64 x).wf = true) : ∃ V, (stS t (.pointer (some ⟨g, q + j, none⟩)) (.int .i64 x)).run Tryz.prog W = .ok () V ∧ PQ w V g c i q l (p.setN j hk x hx) := by
  obtain ⟨V, e, h1, g1⟩ := s.pat.st1 (q := q + j) (v := .int .i64 x) s.at' ht (by rw [← lenP]; exact (List.getElem?_eq_some_iff.1 hk).1) rfl (fit_num hk hx) (by rw [s.hq])
  exact ⟨V, e, s.go h1 g1⟩
theorem PQ.num {w W : World} {g c i q j : Nat} {l : List Pt} {p : Pt} {k : IntKind} (s : PQ w W g c i q l p) (hk : kdP[j]? = some (some k)) : W.cell? ⟨g, q + j, none⟩ = some (.int k (p.nm j)) := s.pat.num s.at' hk (by rw [s.hq])
theorem PQ.bit {w W : World} {g c i q j : Nat} {l : List Pt} {p : Pt} (s : PQ w W g c i q l p) (hk : kdP[j]? = some none) : W.cell? ⟨g, q + j, none⟩ = some (.bool (p.bt j)) := s.pat.bit s.at' hk (by rw [s.hq])
def Chg (F : Nat) (f : Pt → Pt) : Prop := ∀ (W : World) (g c i q : Nat) (l : List Pt) (p : Pt), PAt W g c l → l[i]? = some p → q = i * 77 →
  Calls Tryz.prog F #[.pointer (some ⟨g, q, none⟩)] W fun r W' => r = .returned (.tuple #[]) ∧ PAt W' g c (l.set i (f p)) ∧ W.grownBy W' (some g)
attribute [local go_sem ↓] ldP stP stB stU stW ldT stT st32
set_option maxHeartbeats 1000000 in
theorem chg_begin : Chg 176 begP := by
  intro W g c i q l p hp hi hq
  have s0 := PQ.start hp hi hq
  obtain ⟨V1, e1, s1⟩ := s0.setB kb11 true
  obtain ⟨V2, e2, s2⟩ := s1.setU ku64 u0
  obtain ⟨V3, e3, s3⟩ := s2.setN infoS kn75 wi1
  have F : Hid (PAt V3 g c (l.set i (begP p)) ∧ W.grownBy V3 (some g)) := ⟨s3.pat, s3.gr⟩
  clear hp hi hq s0 s1 s2 s3
  go_enter Tryz.func176, Tryz.ntmps176
  go_wp2
  go_end0
  exact ⟨rfl, F.out.1, F.out.2⟩
set_option maxHeartbeats 1000000 in
theorem chg_check : Chg 217 chkP := by
  intro W g c i q l p hp hi hq
  have s0 := PQ.start hp hi hq
  obtain ⟨V1, e1, s1⟩ := s0.setB kb23 true
  obtain ⟨V2, e2, s2⟩ := s1.setU ku67 u3
  obtain ⟨V3, e3, s3⟩ := s2.setN infoS kn76 wi1
  have F : Hid (PAt V3 g c (l.set i (chkP p)) ∧ W.grownBy V3 (some g)) := ⟨s3.pat, s3.gr⟩
  clear hp hi hq s0 s1 s2 s3
  go_enter Tryz.func217, Tryz.ntmps217
  go_wp2
  go_end0
  exact ⟨rfl, F.out.1, F.out.2⟩
set_option maxHeartbeats 1000000 in
theorem chg_sense : Chg 218 senP := by
  intro W g c i q l p hp hi hq
  have s0 := PQ.start hp hi hq
  obtain ⟨V1, e1, s1⟩ := s0.setB kb15 false
  obtain ⟨V2, e2, s2⟩ := s1.setB kb16 false
  obtain ⟨V3, e3, s3⟩ := s2.setN infoS kn76 wi3
  have F : Hid (PAt V3 g c (l.set i (senP p)) ∧ W.grownBy V3 (some g)) := ⟨s3.pat, s3.gr⟩
  clear hp hi hq s0 s1 s2 s3
  go_enter Tryz.func218, Tryz.ntmps218
  go_wp2
  go_end0
  exact ⟨rfl, F.out.1, F.out.2⟩
set_option maxHeartbeats 1000000 in
theorem chg_fall : Chg 219 falP := by
  intro W g c i q l p hp hi hq
  have s0 := PQ.start hp hi hq
  obtain ⟨V1, e1, s1⟩ := s0.setB kb23 false
  obtain ⟨V2, e2, s2⟩ := s1.setU ku67 u3
  obtain ⟨V3, e3, s3⟩ := s2.setN infoS kn76 wi2
  have F : Hid (PAt V3 g c (l.set i (falP p)) ∧ W.grownBy V3 (some g)) := ⟨s3.pat, s3.gr⟩
  clear hp hi hq s0 s1 s2 s3
  go_enter Tryz.func219, Tryz.ntmps219
  go_wp2
  go_end0
  exact ⟨rfl, F.out.1, F.out.2⟩
set_option maxHeartbeats 1000000 in
theorem chg_wait : Chg 177 waiP := by
  intro W g c i q l p hp hi hq
  have s0 := PQ.start hp hi hq
  have c42 := s0.num (j := 42) (k := .u8) rfl
  obtain ⟨V, e, s⟩ := s0.setU ku66 (wai_in p)
  have F : Hid (PAt V g c (l.set i (waiP p)) ∧ W.grownBy V (some g)) := ⟨s.pat, s.gr⟩
  have hu := p.u8 (j := 42) rfl
  clear hp hi hq s0 s
  by_cases h0 : p.nm 42 = 0
  · have e0 : waiN p = 1 := by unfold waiN; rw [if_pos h0]
    rw [e0] at e
    rw [h0] at c42
    clear hu e0 h0
    go_enter Tryz.func177, Tryz.ntmps177
    go_wp2
    go_end0
    exact ⟨rfl, F.out.1, F.out.2⟩
  · have e0 : waiN p = p.nm 42 := by unfold waiN; rw [if_neg h0]
    rw [e0] at e
    obtain ⟨N, hN⟩ : ∃ z, p.nm 42 = z := ⟨_, rfl⟩
    rw [hN] at e c42 hu h0
    have hm : ¬ N < 1 := by omega
    have hm2 : (if N < 1 then 1 else N) = N := if_neg hm
    have hm3 : 1 ≤ N := by omega
    clear hN e0 h0
    go_enter Tryz.func177, Tryz.ntmps177
    go_wp2
    go_end0
    exact ⟨rfl, F.out.1, F.out.2⟩
set_option maxHeartbeats 2000000 in
theorem chg_remind : Chg 178 remP := by
  intro W g c i q l p hp hi hq
  have s0 := PQ.start hp hi hq
  have c11 := s0.bit (j := 11) rfl
  have c30 := s0.num (j := 30) (k := .i64) rfl
  have c71 := s0.num (j := 71) (k := .u8) rfl
  obtain ⟨V, e, s⟩ := s0.setB kb11 (remB p)
  have F : Hid (PAt V g c (l.set i (remP p)) ∧ W.grownBy V (some g)) := ⟨s.pat, s.gr⟩
  clear hp hi hq s0 s
  obtain ⟨b11, h11⟩ : ∃ z, p.bt 11 = z := ⟨_, rfl⟩
  obtain ⟨N, hN⟩ : ∃ z, p.nm 30 = z := ⟨_, rfl⟩
  obtain ⟨M, hM⟩ : ∃ z, p.nm 71 = z := ⟨_, rfl⟩
  have H11 : Hid (p.bt 11 = b11) := h11
  have H30 : Hid (p.nm 30 = N) := hN
  have H71 : Hid (p.nm 71 = M) := hM
  rw [h11] at c11
  rw [hN] at c30
  rw [hM] at c71
  clear h11 hN hM
  cases b11
  · by_cases h4 : N = 4
    · subst h4
      have eb : remB p = true := by unfold remB; rw [H11.out, H30.out]; rfl
      rw [eb] at e
      clear eb H11 H30 H71
      go_enter Tryz.func178, Tryz.ntmps178
      go_wp2
      go_end0
      exact ⟨rfl, F.out.1, F.out.2⟩
    · have x4 : (N == 4) = false := beq_eq_false_iff_ne.2 h4
      by_cases h3 : N = 3
      · subst h3
        by_cases h0 : M = 0
        · subst h0
          clear h4
          have eb : remB p = false := by unfold remB; rw [H11.out, H30.out, H71.out]; rfl
          rw [eb] at e
          clear eb H11 H30 H71
          go_enter Tryz.func178, Tryz.ntmps178
          go_wp2
          go_end0
          exact ⟨rfl, F.out.1, F.out.2⟩
        · have y0 : (M != 0) = true := by simp [h0]
          have x0 : (M == 0) = false := beq_eq_false_iff_ne.2 h0
          clear h4
          have eb : remB p = true := by unfold remB; rw [H11.out, H30.out, H71.out, x0]; rfl
          rw [eb] at e
          clear eb h0 H11 H30 H71
          go_enter Tryz.func178, Tryz.ntmps178
          go_wp2
          go_end0
          exact ⟨rfl, F.out.1, F.out.2⟩
      · have x3 : (N == 3) = false := beq_eq_false_iff_ne.2 h3
        have eb : remB p = false := by unfold remB; rw [H11.out, H30.out, H71.out, x4, x3]; rfl
        rw [eb] at e
        clear eb h4 h3 H11 H30 H71
        go_enter Tryz.func178, Tryz.ntmps178
        go_wp2
        go_end0
        exact ⟨rfl, F.out.1, F.out.2⟩
  · have eb : remB p = true := by unfold remB; rw [H11.out]; rfl
    rw [eb] at e
    clear eb H11 H30 H71
    go_enter Tryz.func178, Tryz.ntmps178
    go_wp2
    go_end0
    exact ⟨rfl, F.out.1, F.out.2⟩
set_option maxHeartbeats 2000000 in
theorem chg_sent (W : World) (g c i q mb : Nat) (l : List Pt) (p : Pt) (m : Mg) (hp : PAt W g c l) (hi : l[i]? = some p) (hq : q = i * 77) (hm : RvAt W mb 46 m.cs) (hne : mb ≠ g) (hk : m.nm 0 = kinN p) (h64 : p.nm 64 < 255) :
    Calls Tryz.prog 181 #[.pointer (some ⟨g, q, none⟩), .pointer (some ⟨mb, 0, none⟩)] W fun r W' => r = .returned (.tuple #[]) ∧ PAt W' g c (l.set i (sntP p)) ∧ W.grownBy W' (some g) := by
  have s0 := PQ.start hp hi hq
  have hu := p.u8 (j := 64) rfl
  obtain ⟨V1, e1, s1⟩ := s0.setB kb11 false
  have c64 := s1.num (j := 64) (k := .u8) rfl
  rw [setB_nm _ _ _ (by decide)] at c64
  obtain ⟨V2, e2, s2⟩ := s1.setU ku64 (x := p.nm 64 + 1) ⟨by omega, by omega⟩
  have c26 := s2.bit (j := 26) rfl
  rw [setU_bt _ (by decide), setB_bt _ _ _ (by decide)] at c26
  have cm := ((hm.keptBut (s2.gr) (by simpa using hne))).num (j := 0) (k := .i64) rfl
  rw [hk] at cm
  obtain ⟨V3, e3, s3⟩ := s2.setB kb26 (ackB p)
  have F : Hid (PAt V3 g c (l.set i (sntP p)) ∧ W.grownBy V3 (some g)) := ⟨s3.pat, s3.gr⟩
  have hw : IntKind.u8.wrap (p.nm 64 + 1) = p.nm 64 + 1 := IntWalk.u8_in _ (by omega)
  obtain ⟨T, hT⟩ : ∃ z, p.nm 64 = z := ⟨_, rfl⟩
  obtain ⟨b26, h26⟩ : ∃ z, p.bt 26 = z := ⟨_, rfl⟩
  obtain ⟨K, hK⟩ : ∃ z, kinN p = z := ⟨_, rfl⟩
  rw [hT] at c64 e2 hw
  rw [h26] at c26
  rw [hK] at cm
  have H26 : Hid (p.bt 26 = b26) := h26
  have HK : Hid (kinN p = K) := hK
  clear hp hi hq s0 s1 s2 s3 hm hne hk h64 hu hT h26 hK
  cases b26
  · have eb : ackB p = false := by unfold ackB; rw [H26.out]; rfl
    rw [eb] at e3
    clear eb H26 HK
    go_enter Tryz.func181, Tryz.ntmps181
    go_wp2
    go_end0
    exact ⟨rfl, F.out.1, F.out.2⟩
  · by_cases h2 : K = 2
    · subst h2
      have eb : ackB p = true := by unfold ackB; rw [H26.out, HK.out]; rfl
      rw [eb] at e3
      clear eb H26 HK
      go_enter Tryz.func181, Tryz.ntmps181
      go_wp2
      go_end0
      exact ⟨rfl, F.out.1, F.out.2⟩
    · have x2 : (K == 2) = false := beq_eq_false_iff_ne.2 h2
      have eb : ackB p = false := by unfold ackB; rw [H26.out, HK.out, x2]; rfl
      rw [eb] at e3
      clear eb H26 HK h2
      go_enter Tryz.func181, Tryz.ntmps181
      go_wp2
      go_end0
      exact ⟨rfl, F.out.1, F.out.2⟩
end S15
end
section
namespace S15
open Go.RowKit

attribute [local go_sem ↓] ldP stP stB stU stW ldT stT st32
theorem there_any (h : Hd) (a : Option Addr) (n c : Nat) (i : Int) (w : World) :
    Calls Tryz.prog 173 #[.agg (trc h (.slice a n c)), .int .i64 i] w fun r w' => r = .returned (.bool (decide (0 ≤ i) && decide (i < n))) ∧ Below w.heap.size w w' := by
  obtain ⟨W, hW, r0, bW, zW⟩ := one_t w h (.slice a n c)
  have c16 := r0.t16
  have F : Hid (Below w.heap.size w W) := bW
  clear r0 bW zW
  go_enter Tryz.func173, Tryz.ntmps173
  by_cases h1 : 0 ≤ i
  · by_cases h2 : i < (n : Int)
    · go_wp2
      go_ret
      exact ⟨by simp [h1, h2], F.out⟩
    · go_wp2
      go_ret
      exact ⟨by simp [h1, h2], F.out⟩
  · go_wp2
    go_ret
    exact ⟨by simp; omega, F.out⟩
theorem there_in {h : Hd} {a : Option Addr} {n c k : Nat} {w : World} (hk : k < n) :
    Calls Tryz.prog 173 #[.agg (trc h (.slice a n c)), .int .i64 (k : Int)] w fun r w' => r = .returned (.bool true) ∧ Below w.heap.size w w' :=
  (there_any h a n c k w).mono fun r w' ⟨hr, hb⟩ => ⟨by rw [hr]; simp; omega, hb⟩
abbrev fv (F : Nat) : Value := .func (.func F) #[] #[]
theorem ent_begin : ∀ (x : Value) (V : World), (callFunc 176 #[x]).run Tryz.prog V = .ok (.enter 176 #[x]) V := fun x V => by go_simp
theorem ent_remind : ∀ (x : Value) (V : World), (callFunc 178 #[x]).run Tryz.prog V = .ok (.enter 178 #[x]) V := fun x V => by go_simp
theorem ent_check : ∀ (x : Value) (V : World), (callFunc 217 #[x]).run Tryz.prog V = .ok (.enter 217 #[x]) V := fun x V => by go_simp
theorem ent_sense : ∀ (x : Value) (V : World), (callFunc 218 #[x]).run Tryz.prog V = .ok (.enter 218 #[x]) V := fun x V => by go_simp
theorem ent_fallBack : ∀ (x : Value) (V : World), (callFunc 219 #[x]).run Tryz.prog V = .ok (.enter 219 #[x]) V := fun x V => by go_simp
abbrev TRes (w : World) (h : Hd) (n : Nat) (L : List Pt) (r : Ending) (w' : World) : Prop := ∃ a' c', r = .returned (.agg (trc h (.slice a' n c'))) ∧ SlAt w' a' n c' L ∧ Below w.heap.size w w' ∧ Nw w a'
abbrev FnAt (w : World) (b : Nat) (cs : Array Value) : Prop := RvAt w b 127 cs
set_option maxHeartbeats 4000000 in
theorem put1_new (F : Nat) (f : Pt → Pt) (hF : Chg F f) (hc : ∀ (x : Value) (V : World), (callFunc F #[x]).run Tryz.prog V = .ok (.enter F #[x]) V) (h : Hd) (a : Option Addr) (n c : Nat) (l : List Pt) (k : Nat) (b : Nat) (w : World) (hs : SlAt w a n c l) (hn : n ≤ 1000) (hk : k < n) (hv : FnAt w b #[fv F]) :
    Calls Tryz.prog 175 #[.agg (trc h (.slice a n c)), .int .i64 (k : Int), .slice (some ⟨b, 0, none⟩) 1 1] w fun r w' => ∃ g c', r = .returned (.agg (trc h (.slice (some ⟨g, 0, none⟩) n c'))) ∧ w.heap.size ≤ g ∧ SlAt w' (some ⟨g, 0, none⟩) n c' (l.set k (f (gtP l k))) ∧ Below w.heap.size w w' := by
  obtain ⟨W, hW, r0, r1, bW, zW⟩ := two_t w h (.slice a n c)
  have l0 := r0.tld
  have H : Hid (SlAt W a n c l ∧ n ≤ 1000 ∧ l.length = n ∧ RvAt W w.heap.size 39 (trc h (.slice a n c)) ∧ RvAt W (w.heap.size + 1) 39 (trc zeroH (.slice none 0 0)) ∧ Below w.heap.size w W ∧ W.heap.size = w.heap.size + 2) := ⟨hs.below bW, hn, hs.len, r0, r1, bW, zW⟩
  have HV : Hid (FnAt W b #[fv F] ∧ b < w.heap.size) := ⟨hv.below bW, hv.lt⟩
  clear hs hn r0 r1 bW zW hv
  go_enter Tryz.func175, Tryz.ntmps175
  go_wp2_with fail
  refine (copy_any h a n c l W H.out.1 H.out.2.1).mono ?_
  rintro _ W2 ⟨v, rfl, o2, b2⟩
  have z2 := H.out.2.2.2.2.2.2
  have hl := H.out.2.2.1
  have hb := HV.out.2
  obtain ⟨W3, s3, r3, g3⟩ := (H.out.2.2.2.1.below b2).tst (g := h) (y := v) o2.one
  have o3 := o2.keptBut g3 (o2.apart (by omega))
  have q3 := (H.out.2.2.2.2.1.below b2).keptBut g3 (by simp)
  have v3 := (HV.out.1.below b2).keptBut g3 (by simp; omega)
  have b3 : Below w.heap.size w W3 := gro (below_over H.out.2.2.2.2.2.1 b2) g3 (Nat.le_refl _) (by have := b2.size; omega)
  have hin0 : (0 : Int) ≤ (k : Int) := by omega
  have hin1 : (k : Int) < (n : Int) := by omega
  clear b2 g3 o2 l0 hW
  rcases o3.pat with ⟨hv, hle⟩ | ⟨g, cc, hv, hg, hp⟩
  · rw [hle] at hl; simp at hl; omega
  · rw [hl] at hv
    subst hv
    have hkl : k < l.length := by rw [hl]; exact hk
    have K0 : Hid (RvAt W3 w.heap.size 39 (trc h (.slice (some ⟨g, 0, none⟩) n cc)) ∧ RvAt W3 (w.heap.size + 1) 39 (trc zeroH (.slice none 0 0)) ∧ Below w.heap.size w W3 ∧ PAt W3 g cc l ∧ FnAt W3 b #[fv F]) := ⟨r3, q3, b3, hp, v3⟩
    have KK : Hid (w.heap.size + 2 ≤ g ∧ b < w.heap.size ∧ l.length = n ∧ k < l.length) := ⟨by omega, hb, hl, hkl⟩
    clear hp hg r3 q3 b3 o3 hl z2 hk hkl hb v3
    have c16 := K0.out.1.t16
    have f0 := K0.out.2.2.2.2.cell 0 _ rfl
    go_wp2_with fail
    refine wp_loop_rounds 2 ?_
    rw [rounds_succ]
    go_wp2_with fail
    refine (hF W3 g cc k (k * 77) l (gtP l k) K0.out.2.2.2.1 (gtP_at KK.out.2.2.2) rfl).mono ?_
    rintro _ X0 ⟨rfl, p1, g1⟩
    have hg := KK.out.1
    have hb := KK.out.2.1
    have K1 : Hid (RvAt X0 w.heap.size 39 (trc h (.slice (some ⟨g, 0, none⟩) n cc)) ∧ RvAt X0 (w.heap.size + 1) 39 (trc zeroH (.slice none 0 0)) ∧ Below w.heap.size w X0 ∧ PAt X0 g cc (l.set k (f (gtP l k))) ∧ FnAt X0 b #[fv F]) := ⟨K0.out.1.keptBut g1 (by simp; omega), K0.out.2.1.keptBut g1 (by simp; omega), gro K0.out.2.2.1 g1 (by omega) K0.out.2.2.1.size, p1, K0.out.2.2.2.2.keptBut g1 (by simp; omega)⟩
    clear p1 g1 hg hb c16 f0
    have c16 := K1.out.1.t16
    have f0 := K1.out.2.2.2.2.cell 0 _ rfl
    have l9 := K1.out.1.tld
    have hg := KK.out.1
    obtain ⟨U, s6, r6, g6⟩ := K1.out.2.1.tst (g := h) (y := .slice (some ⟨g, 0, none⟩) n cc) rfl
    have p6 := (K1.out.2.2.2.1.keptBut g6 (by simp; omega)).sl
    rw [List.length_set, KK.out.2.2.1] at p6
    have G : Hid (RvAt U (w.heap.size + 1) 39 (trc h (.slice (some ⟨g, 0, none⟩) n cc)) ∧ SlAt U (some ⟨g, 0, none⟩) n cc (l.set k (f (gtP l k))) ∧ Below w.heap.size w U) := ⟨r6, p6, gro K1.out.2.2.1 g6 (by omega) K1.out.2.2.1.size⟩
    clear r6 p6 g6 hg c16
    go_wp2_with fail
    rw [rounds_succ]
    go_wp2
    refine bodyPost_ret (results_row rtT Tryz.results175 _ _ _ _ rfl G.out.1 (trc_size _ _)) rfl ?_
    exact ⟨g, cc, rfl, by have := KK.out.1; omega, G.out.2⟩
set_option maxHeartbeats 4000000 in
theorem put2_any (F : Nat) (f : Pt → Pt) (hF : Chg F f) (hc : ∀ (x : Value) (V : World), (callFunc F #[x]).run Tryz.prog V = .ok (.enter F #[x]) V) (h : Hd) (a : Option Addr) (n c : Nat) (l : List Pt) (k : Nat) (b : Nat) (w : World) (hs : SlAt w a n c l) (hn : n ≤ 1000) (hk : k < n) (hv : FnAt w b #[fv F, fv 177]) :
    Calls Tryz.prog 175 #[.agg (trc h (.slice a n c)), .int .i64 (k : Int), .slice (some ⟨b, 0, none⟩) 2 2] w fun r w' => TRes w h n (l.set k (waiP (f (gtP l k)))) r w' := by
  obtain ⟨W, hW, r0, r1, bW, zW⟩ := two_t w h (.slice a n c)
  have l0 := r0.tld
  have H : Hid (SlAt W a n c l ∧ n ≤ 1000 ∧ l.length = n ∧ RvAt W w.heap.size 39 (trc h (.slice a n c)) ∧ RvAt W (w.heap.size + 1) 39 (trc zeroH (.slice none 0 0)) ∧ Below w.heap.size w W ∧ W.heap.size = w.heap.size + 2) := ⟨hs.below bW, hn, hs.len, r0, r1, bW, zW⟩
  have HV : Hid (FnAt W b #[fv F, fv 177] ∧ b < w.heap.size) := ⟨hv.below bW, hv.lt⟩
  clear hs hn r0 r1 bW zW hv
  go_enter Tryz.func175, Tryz.ntmps175
  go_wp2_with fail
  refine (copy_any h a n c l W H.out.1 H.out.2.1).mono ?_
  rintro _ W2 ⟨v, rfl, o2, b2⟩
  have z2 := H.out.2.2.2.2.2.2
  have hl := H.out.2.2.1
  have hb := HV.out.2
  obtain ⟨W3, s3, r3, g3⟩ := (H.out.2.2.2.1.below b2).tst (g := h) (y := v) o2.one
  have o3 := o2.keptBut g3 (o2.apart (by omega))
  have q3 := (H.out.2.2.2.2.1.below b2).keptBut g3 (by simp)
  have v3 := (HV.out.1.below b2).keptBut g3 (by simp; omega)
  have b3 : Below w.heap.size w W3 := gro (below_over H.out.2.2.2.2.2.1 b2) g3 (Nat.le_refl _) (by have := b2.size; omega)
  have hin0 : (0 : Int) ≤ (k : Int) := by omega
  have hin1 : (k : Int) < (n : Int) := by omega
  clear b2 g3 o2 l0 hW
  rcases o3.pat with ⟨hv, hle⟩ | ⟨g, cc, hv, hg, hp⟩
  · rw [hle] at hl; simp at hl; omega
  · rw [hl] at hv
    subst hv
    have hkl : k < l.length := by rw [hl]; exact hk
    have K0 : Hid (RvAt W3 w.heap.size 39 (trc h (.slice (some ⟨g, 0, none⟩) n cc)) ∧ RvAt W3 (w.heap.size + 1) 39 (trc zeroH (.slice none 0 0)) ∧ Below w.heap.size w W3 ∧ PAt W3 g cc l ∧ FnAt W3 b #[fv F, fv 177]) := ⟨r3, q3, b3, hp, v3⟩
    have KK : Hid (w.heap.size + 2 ≤ g ∧ b < w.heap.size ∧ l.length = n ∧ k < l.length) := ⟨by omega, hb, hl, hkl⟩
    clear hp hg r3 q3 b3 o3 hl z2 hk hkl hb v3
    have c16 := K0.out.1.t16
    have f0 := K0.out.2.2.2.2.cell 0 _ rfl
    have f1 := K0.out.2.2.2.2.cell 1 _ rfl
    go_wp2_with fail
    refine wp_loop_rounds 3 ?_
    rw [rounds_succ]
    go_wp2_with fail
    refine (hF W3 g cc k (k * 77) l (gtP l k) K0.out.2.2.2.1 (gtP_at KK.out.2.2.2) rfl).mono ?_
    rintro _ X0 ⟨rfl, p1, g1⟩
    have hg := KK.out.1
    have hb := KK.out.2.1
    have K1 : Hid (RvAt X0 w.heap.size 39 (trc h (.slice (some ⟨g, 0, none⟩) n cc)) ∧ RvAt X0 (w.heap.size + 1) 39 (trc zeroH (.slice none 0 0)) ∧ Below w.heap.size w X0 ∧ PAt X0 g cc (l.set k (f (gtP l k))) ∧ FnAt X0 b #[fv F, fv 177]) := ⟨K0.out.1.keptBut g1 (by simp; omega), K0.out.2.1.keptBut g1 (by simp; omega), gro K0.out.2.2.1 g1 (by omega) K0.out.2.2.1.size, p1, K0.out.2.2.2.2.keptBut g1 (by simp; omega)⟩
    clear p1 g1 hg hb c16 f0 f1
    have c16 := K1.out.1.t16
    have f0 := K1.out.2.2.2.2.cell 0 _ rfl
    have f1 := K1.out.2.2.2.2.cell 1 _ rfl
    go_wp2_with fail
    rw [rounds_succ]
    go_wp2_with fail
    refine (chg_wait X0 g cc k (k * 77) (l.set k (f (gtP l k))) (f (gtP l k)) K1.out.2.2.2.1 (gtP_set KK.out.2.2.2) rfl).mono ?_
    rintro _ X1 ⟨rfl, p2, g2⟩
    have hg := KK.out.1
    have hb := KK.out.2.1
    rw [List.set_set] at p2
    have K2 : Hid (RvAt X1 w.heap.size 39 (trc h (.slice (some ⟨g, 0, none⟩) n cc)) ∧ RvAt X1 (w.heap.size + 1) 39 (trc zeroH (.slice none 0 0)) ∧ Below w.heap.size w X1 ∧ PAt X1 g cc (l.set k (waiP (f (gtP l k)))) ∧ FnAt X1 b #[fv F, fv 177]) := ⟨K1.out.1.keptBut g2 (by simp; omega), K1.out.2.1.keptBut g2 (by simp; omega), gro K1.out.2.2.1 g2 (by omega) K1.out.2.2.1.size, p2, K1.out.2.2.2.2.keptBut g2 (by simp; omega)⟩
    clear p2 g2 hg hb c16 f0 f1
    have c16 := K2.out.1.t16
    have f0 := K2.out.2.2.2.2.cell 0 _ rfl
    have f1 := K2.out.2.2.2.2.cell 1 _ rfl
    have l9 := K2.out.1.tld
    have hg := KK.out.1
    obtain ⟨U, s6, r6, g6⟩ := K2.out.2.1.tst (g := h) (y := .slice (some ⟨g, 0, none⟩) n cc) rfl
    have p6 := (K2.out.2.2.2.1.keptBut g6 (by simp; omega)).sl
    rw [List.length_set, KK.out.2.2.1] at p6
    have G : Hid (RvAt U (w.heap.size + 1) 39 (trc h (.slice (some ⟨g, 0, none⟩) n cc)) ∧ SlAt U (some ⟨g, 0, none⟩) n cc (l.set k (waiP (f (gtP l k)))) ∧ Below w.heap.size w U) := ⟨r6, p6, gro K2.out.2.2.1 g6 (by omega) K2.out.2.2.1.size⟩
    clear r6 p6 g6 hg c16
    go_wp2_with fail
    rw [rounds_succ]
    go_wp2
    refine bodyPost_ret (results_row rtT Tryz.results175 _ _ _ _ rfl G.out.1 (trc_size _ _)) rfl ?_
    exact ⟨some ⟨g, 0, none⟩, cc, rfl, G.out.2.1, G.out.2.2, Nw.of (by have := KK.out.1; omega)⟩
set_option maxHeartbeats 4000000 in
theorem put2c_any (h : Hd) (a : Option Addr) (n c : Nat) (l : List Pt) (k : Nat) (b : Nat) (w : World) (hs : SlAt w a n c l) (hn : n ≤ 1000) (hk : k < n) (mb : Nat) (hv : FnAt w b #[.func (.func 181) #[] #[.pointer (some ⟨mb, 0, none⟩)], fv 177]) (m : Mg) (hm : RvAt w mb 46 m.cs) (hmk : m.nm 0 = kinN (gtP l k)) (h64 : (gtP l k).nm 64 < 255) :
    Calls Tryz.prog 175 #[.agg (trc h (.slice a n c)), .int .i64 (k : Int), .slice (some ⟨b, 0, none⟩) 2 2] w fun r w' => TRes w h n (l.set k (waiP (sntP (gtP l k)))) r w' := by
  obtain ⟨W, hW, r0, r1, bW, zW⟩ := two_t w h (.slice a n c)
  have l0 := r0.tld
  have H : Hid (SlAt W a n c l ∧ n ≤ 1000 ∧ l.length = n ∧ RvAt W w.heap.size 39 (trc h (.slice a n c)) ∧ RvAt W (w.heap.size + 1) 39 (trc zeroH (.slice none 0 0)) ∧ Below w.heap.size w W ∧ W.heap.size = w.heap.size + 2) := ⟨hs.below bW, hn, hs.len, r0, r1, bW, zW⟩
  have HV : Hid (FnAt W b #[.func (.func 181) #[] #[.pointer (some ⟨mb, 0, none⟩)], fv 177] ∧ b < w.heap.size) := ⟨hv.below bW, hv.lt⟩
  have HM : Hid (RvAt W mb 46 m.cs ∧ mb < w.heap.size ∧ m.nm 0 = kinN (gtP l k) ∧ (gtP l k).nm 64 < 255) := ⟨hm.below bW, hm.lt, hmk, h64⟩
  clear hs hn r0 r1 bW zW hv hm hmk h64
  go_enter Tryz.func175, Tryz.ntmps175
  go_wp2_with fail
  refine (copy_any h a n c l W H.out.1 H.out.2.1).mono ?_
  rintro _ W2 ⟨v, rfl, o2, b2⟩
  have z2 := H.out.2.2.2.2.2.2
  have hl := H.out.2.2.1
  have hb := HV.out.2
  have hb2 := HM.out.2.1
  obtain ⟨W3, s3, r3, g3⟩ := (H.out.2.2.2.1.below b2).tst (g := h) (y := v) o2.one
  have o3 := o2.keptBut g3 (o2.apart (by omega))
  have q3 := (H.out.2.2.2.2.1.below b2).keptBut g3 (by simp)
  have v3 := (HV.out.1.below b2).keptBut g3 (by simp; omega)
  have m3 := (HM.out.1.below b2).keptBut g3 (by simp; omega)
  have b3 : Below w.heap.size w W3 := gro (below_over H.out.2.2.2.2.2.1 b2) g3 (Nat.le_refl _) (by have := b2.size; omega)
  have hin0 : (0 : Int) ≤ (k : Int) := by omega
  have hin1 : (k : Int) < (n : Int) := by omega
  clear b2 g3 o2 l0 hW
  rcases o3.pat with ⟨hv, hle⟩ | ⟨g, cc, hv, hg, hp⟩
  · rw [hle] at hl; simp at hl; omega
  · rw [hl] at hv
    subst hv
    have hkl : k < l.length := by rw [hl]; exact hk
    have K0 : Hid (RvAt W3 w.heap.size 39 (trc h (.slice (some ⟨g, 0, none⟩) n cc)) ∧ RvAt W3 (w.heap.size + 1) 39 (trc zeroH (.slice none 0 0)) ∧ Below w.heap.size w W3 ∧ PAt W3 g cc l ∧ FnAt W3 b #[.func (.func 181) #[] #[.pointer (some ⟨mb, 0, none⟩)], fv 177]) := ⟨r3, q3, b3, hp, v3⟩
    have KK : Hid (w.heap.size + 2 ≤ g ∧ b < w.heap.size ∧ l.length = n ∧ k < l.length ∧ mb < w.heap.size) := ⟨by omega, hb, hl, hkl, hb2⟩
    have M0 : Hid (RvAt W3 mb 46 m.cs) := m3
    clear hp hg r3 q3 b3 o3 hl z2 hk hkl hb v3 hb2 m3
    have c16 := K0.out.1.t16
    have f0 := K0.out.2.2.2.2.cell 0 _ rfl
    have f1 := K0.out.2.2.2.2.cell 1 _ rfl
    go_wp2_with fail
    refine wp_loop_rounds 3 ?_
    rw [rounds_succ]
    go_wp2_with fail
    refine (chg_sent W3 g cc k (k * 77) mb l (gtP l k) m K0.out.2.2.2.1 (gtP_at KK.out.2.2.2.1) rfl M0.out (by have := KK.out.1; have := KK.out.2.2.2.2; omega) HM.out.2.2.1 HM.out.2.2.2).mono ?_
    rintro _ X0 ⟨rfl, p1, g1⟩
    have hg := KK.out.1
    have hb := KK.out.2.1
    have K1 : Hid (RvAt X0 w.heap.size 39 (trc h (.slice (some ⟨g, 0, none⟩) n cc)) ∧ RvAt X0 (w.heap.size + 1) 39 (trc zeroH (.slice none 0 0)) ∧ Below w.heap.size w X0 ∧ PAt X0 g cc (l.set k (sntP (gtP l k))) ∧ FnAt X0 b #[.func (.func 181) #[] #[.pointer (some ⟨mb, 0, none⟩)], fv 177]) := ⟨K0.out.1.keptBut g1 (by simp; omega), K0.out.2.1.keptBut g1 (by simp; omega), gro K0.out.2.2.1 g1 (by omega) K0.out.2.2.1.size, p1, K0.out.2.2.2.2.keptBut g1 (by simp; omega)⟩
    clear p1 g1 hg hb c16 f0 f1
    have c16 := K1.out.1.t16
    have f0 := K1.out.2.2.2.2.cell 0 _ rfl
    have f1 := K1.out.2.2.2.2.cell 1 _ rfl
    go_wp2_with fail
    rw [rounds_succ]
    go_wp2_with fail
    refine (chg_wait X0 g cc k (k * 77) (l.set k (sntP (gtP l k))) (sntP (gtP l k)) K1.out.2.2.2.1 (gtP_set KK.out.2.2.2.1) rfl).mono ?_
    rintro _ X1 ⟨rfl, p2, g2⟩
    have hg := KK.out.1
    have hb := KK.out.2.1
    rw [List.set_set] at p2
    have K2 : Hid (RvAt X1 w.heap.size 39 (trc h (.slice (some ⟨g, 0, none⟩) n cc)) ∧ RvAt X1 (w.heap.size + 1) 39 (trc zeroH (.slice none 0 0)) ∧ Below w.heap.size w X1 ∧ PAt X1 g cc (l.set k (waiP (sntP (gtP l k)))) ∧ FnAt X1 b #[.func (.func 181) #[] #[.pointer (some ⟨mb, 0, none⟩)], fv 177]) := ⟨K1.out.1.keptBut g2 (by simp; omega), K1.out.2.1.keptBut g2 (by simp; omega), gro K1.out.2.2.1 g2 (by omega) K1.out.2.2.1.size, p2, K1.out.2.2.2.2.keptBut g2 (by simp; omega)⟩
    clear p2 g2 hg hb c16 f0 f1
    have c16 := K2.out.1.t16
    have f0 := K2.out.2.2.2.2.cell 0 _ rfl
    have f1 := K2.out.2.2.2.2.cell 1 _ rfl
    have l9 := K2.out.1.tld
    have hg := KK.out.1
    obtain ⟨U, s6, r6, g6⟩ := K2.out.2.1.tst (g := h) (y := .slice (some ⟨g, 0, none⟩) n cc) rfl
    have p6 := (K2.out.2.2.2.1.keptBut g6 (by simp; omega)).sl
    rw [List.length_set, KK.out.2.2.1] at p6
    have G : Hid (RvAt U (w.heap.size + 1) 39 (trc h (.slice (some ⟨g, 0, none⟩) n cc)) ∧ SlAt U (some ⟨g, 0, none⟩) n cc (l.set k (waiP (sntP (gtP l k)))) ∧ Below w.heap.size w U) := ⟨r6, p6, gro K2.out.2.2.1 g6 (by omega) K2.out.2.2.1.size⟩
    clear r6 p6 g6 hg c16
    go_wp2_with fail
    rw [rounds_succ]
    go_wp2
    refine bodyPost_ret (results_row rtT Tryz.results175 _ _ _ _ rfl G.out.1 (trc_size _ _)) rfl ?_
    exact ⟨some ⟨g, 0, none⟩, cc, rfl, G.out.2.1, G.out.2.2, Nw.of (by have := KK.out.1; omega)⟩
end S15
end
section
namespace S15
open Go.RowKit

attribute [local go_sem ↓] ldP stP stB stU stW ldT stT st32 alP
attribute [local go_sem] alP_run
def turV : Nat → Value
  | 0 => .nilFunc
  | 1 => fv 217
  | 2 => fv 218
  | _ => fv 219
theorem ppm_le (p : Pt) : ppmC p = 0 ∨ ppmC p = 1 ∨ ppmC p = 2 ∨ ppmC p = 3 := by
  unfold ppmC
  (repeat' split) <;> simp
set_option maxHeartbeats 4000000 in
theorem turn_any (p : Pt) (w : World) : Calls Tryz.prog 174 #[.agg p.cs] w fun r w' => r = .returned (turV (ppmC p)) ∧ Below w.heap.size w w' := by
  obtain ⟨C, hC⟩ : ∃ z, ppmC p = z := ⟨_, rfl⟩
  rw [hC]
  have E : Hid (ppmC p = C) := hC
  obtain ⟨W, hW, r0, bW, zW⟩ := new_p w p
  have c76 := r0.num (j := 76) (k := .i64) rfl
  have c67 := r0.num (j := 67) (k := .u8) rfl
  have c2 := r0.bit (j := 2) rfl
  have c23 := r0.bit (j := 23) rfl
  have c15 := r0.bit (j := 15) rfl
  have c16 := r0.bit (j := 16) rfl
  have H : Hid (Below w.heap.size w W) := bW
  clear r0 bW zW hC
  obtain ⟨N, hN⟩ : ∃ z, p.nm 76 = z := ⟨_, rfl⟩
  obtain ⟨M, hM⟩ : ∃ z, p.nm 67 = z := ⟨_, rfl⟩
  obtain ⟨b2, h2⟩ : ∃ z, p.bt 2 = z := ⟨_, rfl⟩
  obtain ⟨b23, h23⟩ : ∃ z, p.bt 23 = z := ⟨_, rfl⟩
  obtain ⟨b15, h15⟩ : ∃ z, p.bt 15 = z := ⟨_, rfl⟩
  obtain ⟨b16, h16⟩ : ∃ z, p.bt 16 = z := ⟨_, rfl⟩
  have HN : Hid (p.nm 76 = N) := hN
  have HM : Hid (p.nm 67 = M) := hM
  have H2 : Hid (p.bt 2 = b2) := h2
  have H23 : Hid (p.bt 23 = b23) := h23
  have H15 : Hid (p.bt 15 = b15) := h15
  have H16 : Hid (p.bt 16 = b16) := h16
  rw [hN] at c76
  rw [hM] at c67
  rw [h2] at c2
  rw [h23] at c23
  rw [h15] at c15
  rw [h16] at c16
  clear hN hM h2 h23 h15 h16
  by_cases hN1 : N = 1
  · subst hN1
    cases b2
    · by_cases hM3 : M = 3
      · subst hM3
        have EC : ppmC p = 0 := by unfold ppmC; simp [HN.out, HM.out, H2.out, H23.out, H15.out, H16.out]
        have E2 : Hid (C = 0) := by rw [← E.out]; exact EC
        clear EC E HN HM H2 H23 H15 H16 
        go_enter Tryz.func174, Tryz.ntmps174
        go_wp2
        go_ret
        exact ⟨by rw [E2.out]; rfl, H.out⟩
      · have xM3 : (M == 3) = false := beq_eq_false_iff_ne.2 hM3
        have yM3 : (M != 3) = true := by simp [hM3]
        have EC : ppmC p = 1 := by unfold ppmC; simp [HN.out, HM.out, H2.out, H23.out, H15.out, H16.out, hM3]
        have E2 : Hid (C = 1) := by rw [← E.out]; exact EC
        clear EC E HN HM H2 H23 H15 H16 hM3
        go_enter Tryz.func174, Tryz.ntmps174
        go_wp2
        go_ret
        exact ⟨by rw [E2.out]; rfl, H.out⟩
    · by_cases hM0 : M = 0
      · subst hM0
        have EC : ppmC p = 2 := by unfold ppmC; simp [HN.out, HM.out, H2.out, H23.out, H15.out, H16.out]
        have E2 : Hid (C = 2) := by rw [← E.out]; exact EC
        clear EC E HN HM H2 H23 H15 H16 
        go_enter Tryz.func174, Tryz.ntmps174
        go_wp2
        go_ret
        exact ⟨by rw [E2.out]; rfl, H.out⟩
      · have xM0 : (M == 0) = false := beq_eq_false_iff_ne.2 hM0
        have yM0 : (M != 0) = true := by simp [hM0]
        have EC : ppmC p = 0 := by unfold ppmC; simp [HN.out, HM.out, H2.out, H23.out, H15.out, H16.out, hM0]
        have E2 : Hid (C = 0) := by rw [← E.out]; exact EC
        clear EC E HN HM H2 H23 H15 H16 hM0
        go_enter Tryz.func174, Tryz.ntmps174
        go_wp2
        go_ret
        exact ⟨by rw [E2.out]; rfl, H.out⟩
  · have xN1 : (N == 1) = false := beq_eq_false_iff_ne.2 hN1
    have yN1 : (N != 1) = true := by simp [hN1]
    by_cases hN3 : N = 3
    · subst hN3
      clear xN1 yN1
      cases b2
      · have EC : ppmC p = 1 := by unfold ppmC; simp [HN.out, HM.out, H2.out, H23.out, H15.out, H16.out]
        have E2 : Hid (C = 1) := by rw [← E.out]; exact EC
        clear EC E HN HM H2 H23 H15 H16 
        go_enter Tryz.func174, Tryz.ntmps174
        go_wp2
        go_ret
        exact ⟨by rw [E2.out]; rfl, H.out⟩
      · cases b23
        · cases b15
          · have EC : ppmC p = 0 := by unfold ppmC; simp [HN.out, HM.out, H2.out, H23.out, H15.out, H16.out]
            have E2 : Hid (C = 0) := by rw [← E.out]; exact EC
            clear EC E HN HM H2 H23 H15 H16 
            go_enter Tryz.func174, Tryz.ntmps174
            go_wp2
            go_ret
            exact ⟨by rw [E2.out]; rfl, H.out⟩
          · have EC : ppmC p = 1 := by unfold ppmC; simp [HN.out, HM.out, H2.out, H23.out, H15.out, H16.out]
            have E2 : Hid (C = 1) := by rw [← E.out]; exact EC
            clear EC E HN HM H2 H23 H15 H16 
            go_enter Tryz.func174, Tryz.ntmps174
            go_wp2
            go_ret
            exact ⟨by rw [E2.out]; rfl, H.out⟩
        · cases b16
          · have EC : ppmC p = 0 := by unfold ppmC; simp [HN.out, HM.out, H2.out, H23.out, H15.out, H16.out]
            have E2 : Hid (C = 0) := by rw [← E.out]; exact EC
            clear EC E HN HM H2 H23 H15 H16 
            go_enter Tryz.func174, Tryz.ntmps174
            go_wp2
            go_ret
            exact ⟨by rw [E2.out]; rfl, H.out⟩
          · have EC : ppmC p = 3 := by unfold ppmC; simp [HN.out, HM.out, H2.out, H23.out, H15.out, H16.out]
            have E2 : Hid (C = 3) := by rw [← E.out]; exact EC
            clear EC E HN HM H2 H23 H15 H16 
            go_enter Tryz.func174, Tryz.ntmps174
            go_wp2
            go_ret
            exact ⟨by rw [E2.out]; rfl, H.out⟩
    · have xN3 : (N == 3) = false := beq_eq_false_iff_ne.2 hN3
      have yN3 : (N != 3) = true := by simp [hN3]
      by_cases hN2 : N = 2
      · subst hN2
        clear xN1 yN1 xN3 yN3
        by_cases hM0 : M = 0
        · subst hM0
          have EC : ppmC p = 2 := by unfold ppmC; simp [HN.out, HM.out, H2.out, H23.out, H15.out, H16.out]
          have E2 : Hid (C = 2) := by rw [← E.out]; exact EC
          clear EC E HN HM H2 H23 H15 H16 
          go_enter Tryz.func174, Tryz.ntmps174
          go_wp2
          go_ret
          exact ⟨by rw [E2.out]; rfl, H.out⟩
        · have xM0 : (M == 0) = false := beq_eq_false_iff_ne.2 hM0
          have yM0 : (M != 0) = true := by simp [hM0]
          cases b2
          · have EC : ppmC p = 2 := by unfold ppmC; simp [HN.out, HM.out, H2.out, H23.out, H15.out, H16.out, hM0]
            have E2 : Hid (C = 2) := by rw [← E.out]; exact EC
            clear EC E HN HM H2 H23 H15 H16 hM0
            go_enter Tryz.func174, Tryz.ntmps174
            go_wp2
            go_ret
            exact ⟨by rw [E2.out]; rfl, H.out⟩
          · have EC : ppmC p = 0 := by unfold ppmC; simp [HN.out, HM.out, H2.out, H23.out, H15.out, H16.out, hM0]
            have E2 : Hid (C = 0) := by rw [← E.out]; exact EC
            clear EC E HN HM H2 H23 H15 H16 hM0
            go_enter Tryz.func174, Tryz.ntmps174
            go_wp2
            go_ret
            exact ⟨by rw [E2.out]; rfl, H.out⟩
      · have xN2 : (N == 2) = false := beq_eq_false_iff_ne.2 hN2
        have yN2 : (N != 2) = true := by simp [hN2]
        have EC : ppmC p = 1 := by unfold ppmC; simp [HN.out, HM.out, H2.out, H23.out, H15.out, H16.out, hN1, hN2, hN3]
        have E2 : Hid (C = 1) := by rw [← E.out]; exact EC
        clear EC E HN HM H2 H23 H15 H16 hN1 hN2 hN3
        go_enter Tryz.func174, Tryz.ntmps174
        go_wp2
        go_ret
        exact ⟨by rw [E2.out]; rfl, H.out⟩
end S15
end
section
namespace S15
open Go.RowKit

attribute [local go_sem ↓] ldP stP stB stU stW ldT stT st32 alP
attribute [local go_sem] alP_run
def bsF (n : Nat) (ps : Array (Nat × Value)) : Sem Value := Instr.buildSlice 204 n ps
theorem bsFs (n : Nat) (ps : Array (Nat × Value)) : Instr.buildSlice 204 n ps = bsF n ps := rfl
theorem bsF1 (f : Fn) (x y : Array Value) (w : World) : (bsF 1 #[(0, .func f x y)]).run Tryz.prog w = .ok (.slice (some ⟨w.heap.size, 0, none⟩) 1 1) (w.alloc (.cells #[.func f x y] 127)) := by kernel_rfl
theorem bsF2 (f g : Fn) (x y z u : Array Value) (w : World) : (bsF 2 #[(0, .func f x y), (1, .func g z u)]).run Tryz.prog w = .ok (.slice (some ⟨w.heap.size, 0, none⟩) 2 2) (w.alloc (.cells #[.func f x y, .func g z u] 127)) := by kernel_rfl
theorem new_fn (w : World) (cs : Array Value) : ∃ W, w.alloc (.cells cs 127) = W ∧ FnAt W w.heap.size cs ∧ Below w.heap.size w W :=
  ⟨_, rfl, RvAt.new w _ _, (Below.refl _ _).alloc (Nat.le_refl _) _⟩
theorem fnil_yes (w : World) : (binOp .eql 127 .nilFunc .nilFunc).run Tryz.prog w = .ok (.bool true) w := by kernel_rfl
theorem fnil_no (f : Fn) (x y : Array Value) (w : World) : (binOp .eql 127 (.func f x y) .nilFunc).run Tryz.prog w = .ok (.bool false) w := by kernel_rfl
attribute [local go_sem] fnil_yes fnil_no
attribute [local go_sem ↓] bsFs
set_option maxHeartbeats 4000000 in
theorem ppm_new (h : Hd) (a : Option Addr) (n c : Nat) (l : List Pt) (k : Nat) (w : World) (hs : SlAt w a n c l) (hn : n ≤ 1000) (hk : k < n) :
    Calls Tryz.prog 135 #[.agg (trc h (.slice a n c)), .int .i64 (k : Int)] w fun r w' => TBf w h a n l (ppmO l k) r w' := by
  obtain ⟨OO, hOO⟩ : ∃ z, ppmO l k = z := ⟨_, rfl⟩
  rw [hOO]
  have EO : Hid (ppmO l k = OO) := hOO
  clear hOO
  obtain ⟨g, o, rfl⟩ := hs.some' (by omega)
  have HL : Hid (l.length = n ∧ n ≤ 1000 ∧ k < n) := ⟨hs.len, hn, hk⟩
  have hkl : k < l.length := by rw [HL.out.1]; exact hk
  have hin0 : (0 : Int) ≤ (k : Int) := by omega
  have hin1 : (k : Int) < (n : Int) := by omega
  obtain ⟨W, hW, r0, r1, bW, zW⟩ := two_t w h (.slice (some ⟨g, o, none⟩) n c)
  have l0 := r0.tld
  have H : Hid (TS w W w.heap.size (w.heap.size + 1) h (.slice (some ⟨g, o, none⟩) n c) ∧ SlAt W (some ⟨g, o, none⟩) n c l) := ⟨⟨r0, r1, bW, by omega⟩, hs.below bW⟩
  have T : Hid _ := there_in (h := h) (a := some ⟨g, o, none⟩) (c := c) (w := W) hk
  obtain ⟨p, hp⟩ : ∃ p, gtP l k = p := ⟨_, rfl⟩
  have HP : Hid (gtP l k = p) := hp
  have HK : Hid (k < l.length) := hkl
  clear hs hn hk r0 r1 bW zW hp hkl
  go_enter Tryz.func135, Tryz.ntmps135
  go_wp2_with fail
  refine Calls.mono T.out ?_
  rintro _ V ⟨rfl, bV⟩
  have K : Hid (TS w V w.heap.size (w.heap.size + 1) h (.slice (some ⟨g, o, none⟩) n c) ∧ SlAt V (some ⟨g, o, none⟩) n c l) := ⟨H.out.1.below bV, H.out.2.below bV⟩
  have c16 := K.out.1.var.t16
  have lp := K.out.2.ld (gtP_at HK.out)
  rw [HP.out] at lp
  clear bV T l0 hW H
  go_wp2_with fail
  refine (turn_any p V).mono ?_
  rintro _ X ⟨rfl, bX⟩
  have L : Hid (TS w X w.heap.size (w.heap.size + 1) h (.slice (some ⟨g, o, none⟩) n c) ∧ SlAt X (some ⟨g, o, none⟩) n c l) := ⟨K.out.1.below bX, K.out.2.below bX⟩
  have lt := L.out.1.var.tld
  clear bX K lp c16
  obtain ⟨C, hC⟩ : ∃ z, ppmC p = z := ⟨_, rfl⟩
  have hle := ppm_le p
  rw [hC] at hle ⊢
  have HC : Hid (ppmC p = C) := hC
  clear hC
  rcases hle with rfl | rfl | rfl | rfl
  · have E : OO = none := by rw [← EO.out]; exact ppmO_no (by rw [HP.out]; exact HC.out)
    subst E
    clear EO
    obtain ⟨U, sU, h1, h2, gU⟩ := L.out.1.tell (y := .slice (some ⟨g, o, none⟩) n c) rfl
    have G : Hid (RvAt U (w.heap.size + 1) 39 (trc h (.slice (some ⟨g, o, none⟩) n c)) ∧ SlAt U (some ⟨g, o, none⟩) n c l ∧ Below w.heap.size w U) := ⟨h1, L.out.2.keptT L.out.1.out gU, h2⟩
    clear h1 h2 gU
    rw [show turV 0 = .nilFunc from rfl]
    go_wp2
    refine bodyPost_ret (results_tb Tryz.results135 _ _ _ _ _ rfl G.out.1) rfl ?_
    exact ⟨some ⟨g, o, none⟩, c, rfl, Or.inl rfl, G.out.2⟩
  · have E : OO = some (l.set k (chkP p)) := by rw [← EO.out, ppmO_yes (c := 1) (by rw [HP.out]; exact HC.out) (by decide), HP.out]; rfl
    subst E
    clear EO
    rw [show turV 1 = fv 217 from rfl]
    obtain ⟨Y, hY, fY, bY⟩ := new_fn X #[fv 217]
    have qY := bsF1 (.func 217) #[] #[] X
    rw [hY] at qY
    have Q : Hid (TS w Y w.heap.size (w.heap.size + 1) h (.slice (some ⟨g, o, none⟩) n c) ∧ SlAt Y (some ⟨g, o, none⟩) n c l ∧ FnAt Y X.heap.size #[fv 217]) := ⟨L.out.1.below bY, L.out.2.below bY, fY⟩
    clear fY bY hY
    go_wp2_with fail
    refine (put1_new 217 chkP chg_check ent_check h (some ⟨g, o, none⟩) n c l k X.heap.size Y Q.out.2.1 HL.out.2.1 HL.out.2.2 Q.out.2.2).mono ?_
    rintro _ X2 ⟨g2, c2, rfl, f2, s2, b2⟩
    rw [HP.out] at s2
    obtain ⟨U, sU, h1, h2, gU⟩ := (Q.out.1.below b2).tell (y := .slice (some ⟨g2, 0, none⟩) n c2) rfl
    have G : Hid (RvAt U (w.heap.size + 1) 39 (trc h (.slice (some ⟨g2, 0, none⟩) n c2)) ∧ SlAt U (some ⟨g2, 0, none⟩) n c2 (l.set k (chkP p)) ∧ Below w.heap.size w U) := ⟨h1, s2.keptT (Q.out.1.below b2).out gU, h2⟩
    have FR : Hid (w.heap.size ≤ g2) := Nat.le_trans Q.out.1.bel.size f2
    clear h1 h2 gU s2 b2 f2
    go_wp2
    refine bodyPost_ret (results_tb Tryz.results135 _ _ _ _ _ rfl G.out.1) rfl ?_
    exact ⟨some ⟨g2, 0, none⟩, c2, rfl, Or.inr (fun x hx => by cases hx; exact FR.out), G.out.2⟩
  · have E : OO = some (l.set k (senP p)) := by rw [← EO.out, ppmO_yes (c := 2) (by rw [HP.out]; exact HC.out) (by decide), HP.out]; rfl
    subst E
    clear EO
    rw [show turV 2 = fv 218 from rfl]
    obtain ⟨Y, hY, fY, bY⟩ := new_fn X #[fv 218]
    have qY := bsF1 (.func 218) #[] #[] X
    rw [hY] at qY
    have Q : Hid (TS w Y w.heap.size (w.heap.size + 1) h (.slice (some ⟨g, o, none⟩) n c) ∧ SlAt Y (some ⟨g, o, none⟩) n c l ∧ FnAt Y X.heap.size #[fv 218]) := ⟨L.out.1.below bY, L.out.2.below bY, fY⟩
    clear fY bY hY
    go_wp2_with fail
    refine (put1_new 218 senP chg_sense ent_sense h (some ⟨g, o, none⟩) n c l k X.heap.size Y Q.out.2.1 HL.out.2.1 HL.out.2.2 Q.out.2.2).mono ?_
    rintro _ X2 ⟨g2, c2, rfl, f2, s2, b2⟩
    rw [HP.out] at s2
    obtain ⟨U, sU, h1, h2, gU⟩ := (Q.out.1.below b2).tell (y := .slice (some ⟨g2, 0, none⟩) n c2) rfl
    have G : Hid (RvAt U (w.heap.size + 1) 39 (trc h (.slice (some ⟨g2, 0, none⟩) n c2)) ∧ SlAt U (some ⟨g2, 0, none⟩) n c2 (l.set k (senP p)) ∧ Below w.heap.size w U) := ⟨h1, s2.keptT (Q.out.1.below b2).out gU, h2⟩
    have FR : Hid (w.heap.size ≤ g2) := Nat.le_trans Q.out.1.bel.size f2
    clear h1 h2 gU s2 b2 f2
    go_wp2
    refine bodyPost_ret (results_tb Tryz.results135 _ _ _ _ _ rfl G.out.1) rfl ?_
    exact ⟨some ⟨g2, 0, none⟩, c2, rfl, Or.inr (fun x hx => by cases hx; exact FR.out), G.out.2⟩
  · have E : OO = some (l.set k (falP p)) := by rw [← EO.out, ppmO_yes (c := 3) (by rw [HP.out]; exact HC.out) (by decide), HP.out]; rfl
    subst E
    clear EO
    rw [show turV 3 = fv 219 from rfl]
    obtain ⟨Y, hY, fY, bY⟩ := new_fn X #[fv 219]
    have qY := bsF1 (.func 219) #[] #[] X
    rw [hY] at qY
    have Q : Hid (TS w Y w.heap.size (w.heap.size + 1) h (.slice (some ⟨g, o, none⟩) n c) ∧ SlAt Y (some ⟨g, o, none⟩) n c l ∧ FnAt Y X.heap.size #[fv 219]) := ⟨L.out.1.below bY, L.out.2.below bY, fY⟩
    clear fY bY hY
    go_wp2_with fail
    refine (put1_new 219 falP chg_fall ent_fallBack h (some ⟨g, o, none⟩) n c l k X.heap.size Y Q.out.2.1 HL.out.2.1 HL.out.2.2 Q.out.2.2).mono ?_
    rintro _ X2 ⟨g2, c2, rfl, f2, s2, b2⟩
    rw [HP.out] at s2
    obtain ⟨U, sU, h1, h2, gU⟩ := (Q.out.1.below b2).tell (y := .slice (some ⟨g2, 0, none⟩) n c2) rfl
    have G : Hid (RvAt U (w.heap.size + 1) 39 (trc h (.slice (some ⟨g2, 0, none⟩) n c2)) ∧ SlAt U (some ⟨g2, 0, none⟩) n c2 (l.set k (falP p)) ∧ Below w.heap.size w U) := ⟨h1, s2.keptT (Q.out.1.below b2).out gU, h2⟩
    have FR : Hid (w.heap.size ≤ g2) := Nat.le_trans Q.out.1.bel.size f2
    clear h1 h2 gU s2 b2 f2
    go_wp2
    refine bodyPost_ret (results_tb Tryz.results135 _ _ _ _ _ rfl G.out.1) rfl ?_
    exact ⟨some ⟨g2, 0, none⟩, c2, rfl, Or.inr (fun x hx => by cases hx; exact FR.out), G.out.2⟩
end S15
end
end Go.Proofs.YtlchejbggnbccaaGreat
