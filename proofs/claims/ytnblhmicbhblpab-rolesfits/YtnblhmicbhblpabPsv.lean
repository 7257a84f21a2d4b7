/-
  A port's variable and the result's, stored into. Plain laws over the program's types.
-/
import Derived.Test.YtnblhmicbhblpabAsg
namespace Go.Proofs.Ytnblhmicbhblpab
set_option linter.unusedVariables false
set_option maxRecDepth 4000
set_option linter.unusedSimpArgs false
open Go.RowKit

/-- A port's variable, and the result's. -/
structure PS (w W : World) (b d : Nat) (q : Pt) : Prop where
  var : RvAt W b 40 q.cs
  out : RvAt W d 40 zeroP.cs
  bel : Below w.heap.size w W
  hb : w.heap.size ≤ b
  hd : w.heap.size ≤ d
  ne : d ≠ b
theorem PS.go {w W V : World} {b d : Nat} {q r : Pt} (s : PS w W b d q) (h : RvAt V b 40 r.cs) (g : W.grownBy V (some b)) : PS w V b d r :=
  ⟨h, s.out.keptBut g (by have := s.ne; simpa using this), gro s.bel g s.hb s.bel.size, s.hb, s.hd, s.ne⟩
theorem PS.below {w W V : World} {b d : Nat} {q : Pt} (s : PS w W b d q) (k : Below W.heap.size W V) : PS w V b d q := ⟨s.var.below k, s.out.below k, below_over s.bel k, s.hb, s.hd, s.ne⟩
theorem PS.setB {w W : World} {b d j : Nat} {q : Pt} (s : PS w W b d q) (h : kdP[j]? = some none) (x : Bool) : ∃ V, (stS 4 (.pointer (some ⟨b, j, none⟩)) (.bool x)).run Try.prog W = .ok () V ∧ PS w V b d (q.setB j h x) := by
  obtain ⟨V, e, h1, g⟩ := s.var.setB h x
  exact ⟨V, e, s.go h1 g⟩
theorem PS.setU {w W : World} {b d j : Nat} {q : Pt} (s : PS w W b d q) (h : kdP[j]? = some (some .u8)) {n : Int} (hn : 0 ≤ n ∧ n ≤ 255) : ∃ V, (stS 5 (.pointer (some ⟨b, j, none⟩)) (.int .u8 n)).run Try.prog W = .ok () V ∧ PS w V b d (q.setU j n) := by
  obtain ⟨V, e, h1, g⟩ := s.var.setU h hn
  exact ⟨V, e, s.go h1 g⟩
theorem PS.setN {w W : World} {b d j : Nat} {q : Pt} (s : PS w W b d q) {t : TypeId} (ht : (Try.prog.info? t).map (·.size) = some 1) (h : kdP[j]? = some (some .i64)) {n : Int} (hn : (Lit.int .i64 n).wf = true) : ∃ V, (stS t (.pointer (some ⟨b, j, none⟩)) (.int .i64 n)).run Try.prog W = .ok () V ∧ PS w V b d (q.setN j h n hn) := by
  obtain ⟨V, e, h1, g⟩ := s.var.rset (v := .int .i64 n) ht (List.getElem?_eq_some_iff.1 h).1 rfl (fit_num h hn)
  exact ⟨V, e, s.go h1 g⟩
theorem PS.st {w W : World} {b d : Nat} {q : Pt} (s : PS w W b d q) (r : Pt) : ∃ V, (stS 40 (.pointer (some ⟨b, 0, none⟩)) (.agg r.cs)).run Try.prog W = .ok () V ∧ PS w V b d r := by
  obtain ⟨V, e, h1, g⟩ := s.var.pst (q := r)
  exact ⟨V, e, s.go h1 g⟩
/-- What is told. -/
theorem PS.tell {w W : World} {b d : Nat} {q : Pt} (s : PS w W b d q) (r : Pt) : ∃ U, (stS 40 (.pointer (some ⟨d, 0, none⟩)) (.agg r.cs)).run Try.prog W = .ok () U ∧ RvAt U d 40 r.cs ∧ Below w.heap.size w U := by
  obtain ⟨U, e, h1, g⟩ := s.out.pst (q := r)
  exact ⟨U, e, h1, gro s.bel g s.hd s.bel.size⟩
theorem PS.ld {w W : World} {b d : Nat} {q : Pt} (s : PS w W b d q) : (ldS 40 (.pointer (some ⟨b, 0, none⟩))).run Try.prog W = .ok (.agg q.cs) W := s.var.pld
theorem PS.put {w W : World} {b d o : Nat} {q : Pt} {tv : TypeId} {ks' : List (Option IntKind)} (s : PS w W b d q) (r : Row ks') (h : (kdP.drop o).take ks'.length = ks') (hl : o + ks'.length ≤ kdP.length) (hi : (Try.prog.info? tv).map (·.size) = some ks'.length) : ∃ V, (stS tv (.pointer (some ⟨b, o, none⟩)) (.agg r.cs)).run Try.prog W = .ok () V ∧ PS w V b d (q.put o r h hl) := by
  obtain ⟨V, e, h1, g⟩ := s.var.rput r h hl hi
  exact ⟨V, e, s.go h1 g⟩
theorem three_tp (w : World) (h : Hd) (x : Value) (p : Pt) : ∃ W, ((w.alloc (.cells (trc h x) 31)).alloc (.cells p.cs 40)).alloc (.cells zeroP.cs 40) = W ∧ PS w W (w.heap.size + 1) (w.heap.size + 1 + 1) p ∧ RvAt W w.heap.size 31 (trc h x) := by
  obtain ⟨D, hD, rA, rD, bD, zD⟩ := two_tp w h x p
  obtain ⟨C, hC, rC, bC, zC⟩ := new_p D zeroP
  rw [zD] at rC
  exact ⟨C, by rw [hD, hC], ⟨rD.below bC, rC, below_over bD bC, by omega, by omega, by omega⟩, rA.below bC⟩
end Go.Proofs.Ytnblhmicbhblpab
