/-
  What the machine makes of a port, as plain functions; a port's variable and the result's, stored into. Plain laws over the program's types.
-/
import Derived.Test.YtlneoegmlcbidaaRFlag
import Derived.Test.YtlneoegmlcbidaaFuns
import Derived.Test.YtlneoegmlcbidaaInf
namespace Go.Proofs.Ytlneoegmlcbidaa
set_option linter.unusedVariables false
set_option maxRecDepth 4000
set_option linter.unusedSimpArgs false
open Go.RowKit

def Row.setN {ks : List (Option IntKind)} (r : Row ks) (j : Nat) (h : ks[j]? = some (some .i64)) (n : Int) (hw : (Lit.int .i64 n).wf = true) : Row ks := r.set j (.int .i64 n) (fit_num h hw)
theorem Row.setN_get {ks : List (Option IntKind)} (r : Row ks) {j : Nat} (h : ks[j]? = some (some .i64)) (n : Int) (hw : (Lit.int .i64 n).wf = true) (i : Nat) : (r.setN j h n hw).cl[i]? = if i = j then some (.int .i64 n) else r.cl[i]? := r.set_get _ (List.getElem?_eq_some_iff.1 h).1 i
theorem wi0 : (Lit.int .i64 0).wf = true := by decide
theorem wi1 : (Lit.int .i64 1).wf = true := by decide
theorem wi2 : (Lit.int .i64 2).wf = true := by decide
theorem wi3 : (Lit.int .i64 3).wf = true := by decide
/-- A port whose role is to be selected anew. -/
def rslP (p : Pt) : Pt := (p.setB 21 kb21 true).setB 22 kb22 false
def disQ (p : Pt) : Pt := (((((((p.setB 14 kb14 false).setB 13 kb13 false).setB 12 kb12 false).setB 3 kb3 false).setB 4 kb4 false).setU 69 0).setN 29 kn29 0 wi0).setN 72 kn72 1 wi1
/-- It is disabled; aged; updated. -/
def disP (p : Pt) : Pt := rslP (disQ p)
def agdQ (p : Pt) : Pt := (p.setN 29 kn29 1 wi1).setN 72 kn72 2 wi2
def agdP (p : Pt) : Pt := rslP (agdQ p)
def updA (p : Pt) : Pt := p.setB 4 kb4 (p.bt 4 && bosP p 2)
def synP (p : Pt) : Pt := p.setB 25 kb25 (p.bt 25 && p.bt 4)
def clrP (p : Pt) : Pt := (p.setB 13 kb13 false).setB 12 kb12 false
def dsgT (p : Pt) : Tm := ⟨(p.cl.drop 40).take 4, (p.sub 40 4).ok⟩
def ownP (p : Pt) : Pt := (p.put 36 (dsg p) kq36 kl36).put 44 (dsgT p) kq44 kl44
def updB (p : Pt) : Pt := ownP (clrP (synP (updA p)))
def curP (p : Pt) : Pt := (((p.setB 28 kb28 false).setB 11 kb11 true).setN 29 kn29 2 wi2).setN 72 kn72 3 wi3
def updP (p : Pt) : Pt := curP (updB p)
/-- What a superior message does, one after another. -/
def d1P (p : Pt) : Pt := (p.setB 4 kb4 false).setB 13 kb13 false
def d2P (p : Pt) : Pt := p.setB 3 kb3 (p.bt 3 && bosP p 3)
def d4P (p : Pt) : Pt := rslP (p.setN 29 kn29 3 wi3)
/-- What one of no other kind does. -/
def othP (p : Pt) : Pt := if p.nm 48 = 2 then flagP p else p
def supP (p : Pt) : Pt := d4P (whiP (timP (prioP (synP (agrP (d2P (flagP (propP (d1P p)))))))))
def recQ (p : Pt) : Pt := if infP p = 1 then supP p else if infP p = 2 then whiP (agrP (flagP (propP p))) else if infP p = 3 then dispP p else if infP p = 4 then flagP (agrP p) else othP p
/-- It receives. -/
def recP (p : Pt) : Pt := (recQ p).setB 14 kb14 false
def fdsO (p : Pt) : Option Pt := if p.bt 2 = true then some (agdP p) else if p.bt 14 = true then some (disP p) else none
def fagO (p : Pt) : Option Pt := if p.bt 22 = true ∧ p.bt 28 = true then some (updP p) else none
def fcuO (p : Pt) : Option Pt := if p.bt 14 = true ∧ p.bt 28 = false then some (recP p) else if p.bt 22 = true ∧ p.bt 28 = true then some (updP p) else if p.nm 29 = 3 ∧ p.nm 69 = 0 ∧ p.bt 28 = false ∧ p.bt 14 = false then some (agdP p) else none
/-- A step of a port. -/
def stepO (p : Pt) : Option Pt := if p.bt 2 = false ∧ p.nm 29 ≠ 0 then some (disP p) else if p.nm 72 = 1 then fdsO p else if p.nm 72 = 2 then fagO p else if p.nm 72 = 3 then fcuO p else some (disP p)
/-- .. as it is told. -/
def tellO (p : Pt) (o : Option Pt) : Pt := o.getD p
theorem stI (x y : Value) : Instr.storeAt 44 x y = stS 44 x y := rfl
theorem stW (x y : Value) : Instr.storeAt 45 x y = stS 45 x y := rfl
theorem infoI : (Try.prog.info? 44).map (·.size) = some 1 := by kernel_rfl
theorem infoS : (Try.prog.info? 45).map (·.size) = some 1 := by kernel_rfl
theorem RvAt.pdsT {W : World} {b : Nat} {p : Pt} (hb : RvAt W b 47 p.cs) : (ldS 24 (.pointer (some ⟨b, 40, none⟩))).run Try.prog W = .ok (.agg (dsgT p).cs) W := hb.part rfl rfl Try.underlying24 rfl infoTm
/-- A port's variable, and the result's. -/
structure PS (w W : World) (b d : Nat) (q : Pt) : Prop where
  var : RvAt W b 47 q.cs
  out : RvAt W d 47 zeroP.cs
  bel : Below w.heap.size w W
  hb : w.heap.size ≤ b
  hd : w.heap.size ≤ d
  ne : d ≠ b
theorem PS.start (w : World) (p : Pt) : ∃ W, (w.alloc (.cells p.cs 47)).alloc (.cells zeroP.cs 47) = W ∧ PS w W w.heap.size (w.heap.size + 1) p := by
  obtain ⟨W, hW, r0, r1, bW, zW⟩ := two_p w p
  exact ⟨W, hW, r0, r1, bW, Nat.le_refl _, by omega, by omega⟩
theorem PS.go {w W V : World} {b d : Nat} {q r : Pt} (s : PS w W b d q) (h : RvAt V b 47 r.cs) (g : W.grownBy V (some b)) : PS w V b d r :=
  ⟨h, s.out.keptBut g (by have := s.ne; simpa using this), gro s.bel g s.hb s.bel.size, s.hb, s.hd, s.ne⟩
theorem PS.below {w W V : World} {b d : Nat} {q : Pt} (s : PS w W b d q) (k : Below W.heap.size W V) : PS w V b d q := ⟨s.var.below k, s.out.below k, below_over s.bel k, s.hb, s.hd, s.ne⟩
theorem PS.setB {w W : World} {b d j : Nat} {q : Pt} (s : PS w W b d q) (h : kdP[j]? = some none) (x : Bool) : ∃ V, (stS 4 (.pointer (some ⟨b, j, none⟩)) (.bool x)).run Try.prog W = .ok () V ∧ PS w V b d (q.setB j h x) := by
  obtain ⟨V, e, h1, g⟩ := s.var.setB h x
  exact ⟨V, e, s.go h1 g⟩
theorem PS.setU {w W : World} {b d j : Nat} {q : Pt} (s : PS w W b d q) (h : kdP[j]? = some (some .u8)) {n : Int} (hn : 0 ≤ n ∧ n ≤ 255) : ∃ V, (stS 5 (.pointer (some ⟨b, j, none⟩)) (.int .u8 n)).run Try.prog W = .ok () V ∧ PS w V b d (q.setU j n) := by
  obtain ⟨V, e, h1, g⟩ := s.var.setU h hn
  exact ⟨V, e, s.go h1 g⟩
theorem PS.setN {w W : World} {b d j : Nat} {q : Pt} (s : PS w W b d q) {t : TypeId} (ht : (Try.prog.info? t).map (·.size) = some 1) (h : kdP[j]? = some (some .i64)) {n : Int} (hn : (Lit.int .i64 n).wf = true) : ∃ V, (stS t (.pointer (some ⟨b, j, none⟩)) (.int .i64 n)).run Try.prog W = .ok () V ∧ PS w V b d (q.setN j h n hn) := by
  obtain ⟨V, e, h1, g⟩ := s.var.rset (v := .int .i64 n) ht (List.getElem?_eq_some_iff.1 h).1 rfl (fit_num h hn)
  exact ⟨V, e, s.go h1 g⟩
theorem PS.putV {w W : World} {b d : Nat} {q : Pt} (s : PS w W b d q) (v : Vc) : ∃ V, (stS 28 (.pointer (some ⟨b, 36, none⟩)) (.agg v.cs)).run Try.prog W = .ok () V ∧ PS w V b d (q.put 36 v kq36 kl36) := by
  obtain ⟨V, e, h1, g⟩ := s.var.putV v
  exact ⟨V, e, s.go h1 g⟩
theorem PS.putT {w W : World} {b d : Nat} {q : Pt} (s : PS w W b d q) (v : Tm) : ∃ V, (stS 24 (.pointer (some ⟨b, 44, none⟩)) (.agg v.cs)).run Try.prog W = .ok () V ∧ PS w V b d (q.put 44 v kq44 kl44) := by
  obtain ⟨V, e, h1, g⟩ := s.var.putT v
  exact ⟨V, e, s.go h1 g⟩
theorem PS.st {w W : World} {b d : Nat} {q : Pt} (s : PS w W b d q) (r : Pt) : ∃ V, (stS 47 (.pointer (some ⟨b, 0, none⟩)) (.agg r.cs)).run Try.prog W = .ok () V ∧ PS w V b d r := by
  obtain ⟨V, e, h1, g⟩ := s.var.pst (q := r)
  exact ⟨V, e, s.go h1 g⟩
/-- What is told. -/
theorem PS.tell {w W : World} {b d : Nat} {q : Pt} (s : PS w W b d q) (r : Pt) : ∃ U, (stS 47 (.pointer (some ⟨d, 0, none⟩)) (.agg r.cs)).run Try.prog W = .ok () U ∧ RvAt U d 47 r.cs ∧ Below w.heap.size w U := by
  obtain ⟨U, e, h1, g⟩ := s.out.pst (q := r)
  exact ⟨U, e, h1, gro s.bel g s.hd s.bel.size⟩
theorem PS.ld {w W : World} {b d : Nat} {q : Pt} (s : PS w W b d q) : (ldS 47 (.pointer (some ⟨b, 0, none⟩))).run Try.prog W = .ok (.agg q.cs) W := s.var.pld
theorem results_pb {fn : Func} {k t : Nat} (hr : fn.results = #[.cell k 47, .tmp t]) (tmps : Array Value) (w : World) (b : Nat) (p : Pt) (h2 : tmps.getD k undef = .pointer (some ⟨b, 0, none⟩)) (h : RvAt w b 47 p.cs) :
    (results fn tmps).run Try.prog w = .ok (.tuple #[.agg p.cs, tmps.getD t undef]) w := by
  have hl := h.lv rtP (by rw [Row.csize, lenP])
  have h2' : tmps[k]?.getD undef = .pointer (some ⟨b, 0, none⟩) := by simpa using h2
  simp [results, hr, asAddr, hl, h2']
/-- A function that tells a port and a bool, at its end. -/
theorem ret_pb {fn : Func} {k t : Nat} (hr : fn.results = #[.cell k 47, .tmp t]) {R : Ending → World → Prop} {a : Act} {w : World} {b : Nat} {p : Pt} {x : Bool} (hd : a.defers = []) (h2 : a.tmps.getD k undef = .pointer (some ⟨b, 0, none⟩)) (h3 : a.tmps.getD t undef = .bool x) (h : RvAt w b 47 p.cs) (hR : R (.returned (.tuple #[.agg p.cs, .bool x])) w) : bodyPost Try.prog fn R .ret a w :=
  bodyPost_ret (results_pb hr _ _ _ _ h2 h) hd (by rw [h3]; exact hR)
theorem setB_eq {ks : List (Option IntKind)} (r : Row ks) {j : Nat} (h : ks[j]? = some none) {x y : Bool} (e : x = y) : r.setB j h x = r.setB j h y := by rw [e]
/-- The definition's order of the same changes. -/
theorem dis_ref (p : Pt) : ((((((((((p.setB 14 kb14 false).setB 13 kb13 false).setB 12 kb12 false).setB 3 kb3 false).setB 4 kb4 false).setU 69 0).setN 29 kn29 0 wi0).setB 21 kb21 true).setB 22 kb22 false).setN 72 kn72 1 wi1) = disP p := by
  refine Row.same fun k _ => ?_
  simp only [disP, disQ, rslP, Row.setB_get, Row.setN_get, Row.setU_get _ ku69 (wf8 (n := 0) (by omega))]
  by_cases h1 : k = 72
  · subst h1; simp
  · simp only [if_neg h1]
theorem agd_ref (p : Pt) : ((((p.setN 29 kn29 1 wi1).setB 21 kb21 true).setB 22 kb22 false).setN 72 kn72 2 wi2) = agdP p := by
  refine Row.same fun k _ => ?_
  simp only [agdP, agdQ, rslP, Row.setB_get, Row.setN_get]
  by_cases h1 : k = 72
  · subst h1; simp
  · simp only [if_neg h1]
theorem cur_ref (p : Pt) : ((((p.setB 28 kb28 false).setN 29 kn29 2 wi2).setB 11 kb11 true).setN 72 kn72 3 wi3) = curP p := by
  refine Row.same fun k _ => ?_
  simp only [curP, Row.setB_get, Row.setN_get]
  by_cases h1 : k = 11
  · subst h1; simp
  · simp only [if_neg h1]
end Go.Proofs.Ytlneoegmlcbidaa
