/-
  A tree's variable of the statements and a port's.
-/
import Derived.Test.YtllmadgonobdnaaLawS
import Derived.Test.YtllmadgonobdnaaLPure
namespace Go.Proofs.Ytllmadgonobdnaa
set_option linter.unusedVariables false
set_option maxRecDepth 4000
set_option linter.unusedSimpArgs false
open Go.RowKit

/-- A tree's variable and a port's. -/
structure TPQ (w W : World) (h : Hd) (a : Option Addr) (n c : Nat) (l : List Pt) (z : Nat) (q : Pt) : Prop where
  t : TQ w W w.heap.size h a n c l
  v : RvAt W z 53 q.cs
  hz : w.heap.size ≤ z
  ne : ∀ x, a = some x → x.block ≠ z
theorem TPQ.below {w W V : World} {h : Hd} {a : Option Addr} {n c z : Nat} {l : List Pt} {q : Pt} (s : TPQ w W h a n c l z q) (k : Below W.heap.size W V) : TPQ w V h a n c l z q := ⟨s.t.below k, s.v.below k, s.hz, s.ne⟩
theorem TPQ.go {w W V : World} {h : Hd} {a : Option Addr} {n c z : Nat} {l : List Pt} {q r : Pt} (s : TPQ w W h a n c l z q) (k : RvAt V z 53 r.cs) (e : W.grownBy V (some z)) : TPQ w V h a n c l z r :=
  ⟨⟨s.t.var.keptBut e (by have := s.t.var.apart s.v (by decide); simpa using this), s.t.sl.keptBut e (fun x hx e' => s.ne x hx (by simpa using e')), gro s.t.bel e s.hz s.t.bel.size, s.t.hb⟩, k, s.hz, s.ne⟩
theorem TPQ.setB {w W : World} {h : Hd} {a : Option Addr} {n c z j : Nat} {l : List Pt} {q : Pt} (s : TPQ w W h a n c l z q) (hk : kdP[j]? = some none) (x : Bool) : ∃ V, (stS 4 (.pointer (some ⟨z, j, none⟩)) (.bool x)).run Try.prog W = .ok () V ∧ TPQ w V h a n c l z (q.setB j hk x) := by
  obtain ⟨V, e, h1, g⟩ := s.v.setB hk x
  exact ⟨V, e, s.go h1 g⟩
theorem TPQ.setU {w W : World} {h : Hd} {a : Option Addr} {n c z j : Nat} {l : List Pt} {q : Pt} (s : TPQ w W h a n c l z q) (hk : kdP[j]? = some (some .u8)) {x : Int} (hx : 0 ≤ x ∧ x ≤ 255) : ∃ V, (stS 5 (.pointer (some ⟨z, j, none⟩)) (.int .u8 x)).run Try.prog W = .ok () V ∧ TPQ w V h a n c l z (q.setU j x) := by
  obtain ⟨V, e, h1, g⟩ := s.v.setU hk hx
  exact ⟨V, e, s.go h1 g⟩
theorem TPQ.setN {w W : World} {h : Hd} {a : Option Addr} {n c z j : Nat} {l : List Pt} {q : Pt} (s : TPQ w W h a n c l z q) (hk : kdP[j]? = some (some .i64)) {x : Int} (hx : (Lit.int .i64 x).wf = true) : ∃ V, (stS 51 (.pointer (some ⟨z, j, none⟩)) (.int .i64 x)).run Try.prog W = .ok () V ∧ TPQ w V h a n c l z (q.setN j hk x hx) := by
  obtain ⟨V, e, h1, g⟩ := s.v.rset (v := .int .i64 x) infoS (List.getElem?_eq_some_iff.1 hk).1 rfl (fit_num hk hx)
  exact ⟨V, e, s.go h1 g⟩
theorem TPQ.st {w W : World} {h : Hd} {a : Option Addr} {n c z : Nat} {l : List Pt} {q : Pt} (s : TPQ w W h a n c l z q) (r : Pt) : ∃ V, (stS 53 (.pointer (some ⟨z, 0, none⟩)) (.agg r.cs)).run Try.prog W = .ok () V ∧ TPQ w V h a n c l z r := by
  obtain ⟨V, e, h1, g⟩ := s.v.pst (q := r)
  exact ⟨V, e, s.go h1 g⟩
/-- A port of a tree, in a variable of its own. -/
theorem TPQ.new {w W : World} {h : Hd} {a : Option Addr} {n c : Nat} {l : List Pt} (s : TQ w W w.heap.size h a n c l) (hn : 0 < n) (q : Pt) : ∃ V, (stS 53 (.pointer (some ⟨W.heap.size, 0, none⟩)) (.agg q.cs)).run Try.prog (W.alloc (.cells zeroP.cs 53)) = .ok () V ∧ TPQ w V h a n c l W.heap.size q ∧ Below W.heap.size W V := by
  obtain ⟨V, e, r, b, z⟩ := var_p W q
  refine ⟨V, e, ⟨s.below b, r, s.bel.size, fun x hx e' => ?_⟩, b⟩
  obtain ⟨g, o, ha⟩ := s.sl.some' hn
  rw [ha] at hx
  cases hx
  have hs := s.sl
  rw [ha] at hs
  have := hs.low hn
  simp only at e'
  omega
end Go.Proofs.Ytllmadgonobdnaa
