/-
  A port of a tree of one's own that is being changed: stored into, cell by cell; what each deed makes of it. Plain laws over the program's types.
-/
import Derived.Test.YtdlleecfmebenaaRulA
namespace Go.Proofs.Ytdlleecfmebenaa
set_option linter.unusedVariables false
set_option maxRecDepth 4000
set_option linter.unusedSimpArgs false
open Go.RowKit

theorem kb7 : kdP[7]? = some none := rfl
theorem kb9 : kdP[9]? = some none := rfl
theorem kn30 : kdP[30]? = some (some .i64) := rfl
theorem kn31 : kdP[31]? = some (some .i64) := rfl
theorem kn73 : kdP[73]? = some (some .i64) := rfl
theorem ku65 : kdP[65]? = some (some .u8) := rfl
theorem ku68 : kdP[68]? = some (some .u8) := rfl
theorem ku70 : kdP[70]? = some (some .u8) := rfl
theorem wi4 : (Lit.int .i64 4).wf = true := by decide
theorem wi5 : (Lit.int .i64 5).wf = true := by decide
theorem wi6 : (Lit.int .i64 6).wf = true := by decide
/-- What each deed makes of its port. -/
def restP (p : Pt) : Pt := (((p.setB 25 kb25 true).setB 24 kb24 false).setB 20 kb20 false).setU 70 0
def disP (p : Pt) : Pt := ((restP p).setU 65 ((restP p).nm 41)).setN 73 kn73 2 wi2
def blkP (p : Pt) : Pt := ((restP p).setU 65 ((restP p).nm 43)).setN 73 kn73 6 wi6
def becDis (p : Pt) : Pt := ((p.setB 9 kb9 false).setB 7 kb7 false).setN 73 kn73 1 wi1
def becRoot (p : Pt) : Pt := (p.setU 70 (p.nm 43)).setN 73 kn73 3 wi3
def becDsg (p : Pt) : Pt := p.setN 73 kn73 4 wi4
def becBlk (p : Pt) : Pt := ((p.setB 9 kb9 false).setB 7 kb7 false).setN 73 kn73 5 wi5
def takP (p : Pt) : Pt := p.setN 30 kn30 (p.nm 31) (p.nwf kn31)
def rolP (p : Pt) : Pt := if p.nm 31 = 0 then becDis (takP p) else if p.nm 31 = 3 then becRoot (takP p) else if p.nm 31 = 4 then becDsg (takP p) else becBlk (takP p)
def begA (p : Pt) : Pt := ((((((p.setN 30 kn30 0 wi0).setN 73 kn73 1 wi1).setB 9 kb9 false).setB 7 kb7 false).setB 25 kb25 false).setB 24 kb24 true).setB 20 kb20 true
def begP (p : Pt) : Pt := (((begA p).setU 70 ((begA p).nm 43)).setU 65 ((begA p).nm 41)).setU 68 0
def agrP (p : Pt) : Pt := ((p.setB 12 kb12 false).setB 3 kb3 true).setB 11 kb11 true
def agrRP (p : Pt) : Pt := agrP (p.setB 24 kb24 false)
def rrdP (p : Pt) : Pt := p.setB 20 kb20 false
def lrnP (p : Pt) : Pt := (p.setB 9 kb9 true).setU 65 (delayP p)
def fwdP (p : Pt) : Pt := (p.setB 7 kb7 true).setU 65 0
def fwdDP (p : Pt) : Pt := (fwdP p).setB 4 kb4 ((fwdP p).bt 23)
def rcnP (p : Pt) : Pt := p.setU 70 (p.nm 43)
def prsP (p : Pt) : Pt := (p.setB 13 kb13 true).setB 11 kb11 true
def synP (p : Pt) : Pt := ((p.setU 70 0).setB 25 kb25 true).setB 24 kb24 false
def stpA (p : Pt) : Pt := ((p.setB 9 kb9 false).setB 7 kb7 false).setB 5 kb5 false
def stpP (p : Pt) : Pt := (stpA p).setU 65 (delayP (stpA p))
def bkuP (p : Pt) : Pt := p.setU 68 (twN (p.nm 42))
def prdP (p : Pt) : Pt := p.setB 12 kb12 false
theorem delay_in (p : Pt) : 0 ≤ delayP p ∧ delayP p ≤ 255 := by
  unfold delayP
  split
  · exact p.u8 rfl
  · exact p.u8 rfl
/-- The port that is being changed, in a tree of the call's own. -/
structure DP (w W : World) (b : Nat) (h : Hd) (g c n k Q : Nat) (l : List Pt) (p : Pt) : Prop where
  var : RvAt W b 50 (chc h (.slice (some ⟨g, 0, none⟩) n c) k)
  pat : PAt W g c (l.set k p)
  len : l.length = n
  bel : Below w.heap.size w W
  hb : w.heap.size ≤ b
  hg : w.heap.size ≤ g
  ne : g ≠ b
  hk : k < n
  hn : n ≤ 1000
  hQ : Q = k * 77
theorem DP.at' {w W : World} {b g c n k Q : Nat} {h : Hd} {l : List Pt} {p : Pt} (s : DP w W b h g c n k Q l p) : (l.set k p)[k]? = some p := by
  rw [List.getElem?_set, if_pos rfl, if_pos (by rw [s.len]; exact s.hk)]
theorem DP.gt {w W : World} {b g c n k Q : Nat} {h : Hd} {l : List Pt} {p : Pt} (s : DP w W b h g c n k Q l p) : gtP (l.set k p) k = p := gtP_put (by rw [s.len]; exact s.hk)
theorem DP.cs {w W : World} {b g c n k Q : Nat} {h : Hd} {l : List Pt} {p : Pt} (s : DP w W b h g c n k Q l p) : CS W b h g 0 n c k (l.set k p) := ⟨s.var, by have := s.pat.sl; rw [List.length_set, s.len] at this; exact this, s.hk, s.hn⟩
theorem DP.below {w W V : World} {b g c n k Q : Nat} {h : Hd} {l : List Pt} {p : Pt} (s : DP w W b h g c n k Q l p) (e : Below W.heap.size W V) : DP w V b h g c n k Q l p := ⟨s.var.below e, s.pat.below e, s.len, below_over s.bel e, s.hb, s.hg, s.ne, s.hk, s.hn, s.hQ⟩
theorem DP.go {w W V : World} {b g c n k Q : Nat} {h : Hd} {l : List Pt} {p q : Pt} (s : DP w W b h g c n k Q l p) (hp : PAt V g c ((l.set k p).set k q)) (e : W.grownBy V (some g)) : DP w V b h g c n k Q l q :=
  ⟨s.var.keptBut e (by have := s.ne; simpa using this.symm), by rw [List.set_set] at hp; exact hp, s.len, gro s.bel e s.hg s.bel.size, s.hb, s.hg, s.ne, s.hk, s.hn, s.hQ⟩
theorem DP.setB {w W : World} {b g c n k Q j : Nat} {h : Hd} {l : List Pt} {p : Pt} (s : DP w W b h g c n k Q l p) (hk : kdP[j]? = some none) (x : Bool) : ∃ V, (stS 4 (.pointer (some ⟨g, Q + j, none⟩)) (.bool x)).run Try.prog W = .ok () V ∧ DP w V b h g c n k Q l (p.setB j hk x) := by
  obtain ⟨V, e, h1, g1⟩ := s.pat.st1 (q := Q + j) (v := .bool x) s.at' info2.1 (by rw [← lenP]; exact (List.getElem?_eq_some_iff.1 hk).1) rfl (fit_bit hk) (by rw [s.hQ])
  exact ⟨V, e, s.go h1 g1⟩
theorem DP.setU {w W : World} {b g c n k Q j : Nat} {h : Hd} {l : List Pt} {p : Pt} (s : DP w W b h g c n k Q l p) (hk : kdP[j]? = some (some .u8)) {x : Int} (hx : 0 ≤ x ∧ x ≤ 255) : ∃ V, (stS 5 (.pointer (some ⟨g, Q + j, none⟩)) (.int .u8 x)).run Try.prog W = .ok () V ∧ DP w V b h g c n k Q l (p.setU j x) := by
  obtain ⟨V, e, h1, g1⟩ := s.pat.st1 (q := Q + j) (v := .int .u8 x) s.at' info2.2 (by rw [← lenP]; exact (List.getElem?_eq_some_iff.1 hk).1) rfl (fit_num hk (wf8 hx)) (by rw [s.hQ])
  rw [p.setU_is hk (wf8 hx)]
  exact ⟨V, e, s.go h1 g1⟩
theorem DP.setN {w W : World} {b g c n k Q j : Nat} {h : Hd} {l : List Pt} {p : Pt} (s : DP w W b h g c n k Q l p) {t : TypeId} (ht : (Try.prog.info? t).map (·.size) = some 1) (hk : kdP[j]? = some (some .i64)) {x : Int} (hx : (Lit.int .i64 x).wf = true) : ∃ V, (stS t (.pointer (some ⟨g, Q + j, none⟩)) (.int .i64 x)).run Try.prog W = .ok () V ∧ DP w V b h g c n k Q l (p.setN j hk x hx) := by
  obtain ⟨V, e, h1, g1⟩ := s.pat.st1 (q := Q + j) (v := .int .i64 x) s.at' ht (by rw [← lenP]; exact (List.getElem?_eq_some_iff.1 hk).1) rfl (fit_num hk hx) (by rw [s.hQ])
  exact ⟨V, e, s.go h1 g1⟩
theorem DP.num {w W : World} {b g c n k Q j : Nat} {h : Hd} {l : List Pt} {p : Pt} {q : IntKind} (s : DP w W b h g c n k Q l p) (hk : kdP[j]? = some (some q)) : W.cell? ⟨g, Q + j, none⟩ = some (.int q (p.nm j)) := s.pat.num s.at' hk (by rw [s.hQ])
theorem DP.bit {w W : World} {b g c n k Q j : Nat} {h : Hd} {l : List Pt} {p : Pt} (s : DP w W b h g c n k Q l p) (hk : kdP[j]? = some none) : W.cell? ⟨g, Q + j, none⟩ = some (.bool (p.bt j)) := s.pat.bit s.at' hk (by rw [s.hQ])
theorem DP.ld {w W : World} {b g c n k Q : Nat} {h : Hd} {l : List Pt} {p : Pt} (s : DP w W b h g c n k Q l p) : (ldS 45 (.pointer (some ⟨g, Q, none⟩))).run Try.prog W = .ok (.agg p.cs) W := s.pat.ld s.at' s.hQ
theorem dport_any {w W : World} {b g c n k Q : Nat} {h : Hd} {l : List Pt} {p : Pt} (s : DP w W b h g c n k Q l p) :
    Calls Try.prog 28 #[.pointer (some ⟨b, 0, none⟩)] W fun r W' => r = .returned (.pointer (some ⟨g, Q, none⟩)) ∧ DP w W' b h g c n k Q l p :=
  (port_any s.cs).mono fun r W' ⟨hr, hB⟩ => ⟨by rw [hr, s.hQ, Nat.zero_add], s.below hB⟩
/-- What a deed that keeps to its port does. -/
def Deed1 (F : Nat) (f : Pt → Pt) : Prop := ∀ (w W : World) (b : Nat) (h : Hd) (g c n k Q : Nat) (l : List Pt) (p : Pt), DP w W b h g c n k Q l p →
  Calls Try.prog F #[.pointer (some ⟨b, 0, none⟩)] W fun r W' => r = .returned (.tuple #[]) ∧ DP w W' b h g c n k Q l (f p)
end Go.Proofs.Ytdlleecfmebenaa
