/-
  The root vector, as a plain function of the ports; the variables of RootOf. Plain laws.
-/
import Derived.Test.YtnblhmicbhblpabLead
namespace Go.Proofs.Ytnblhmicbhblpab
set_option linter.unusedVariables false
set_option maxRecDepth 4000
set_option linter.unusedSimpArgs false
open Go.RowKit

def cmp (a b : Vc) : Int := cmpV (v4 a) (v4 b)
theorem cmp_in (a b : Vc) : cmp a b = -1 ∨ cmp a b = 0 ∨ cmp a b = 1 := by
  unfold cmp cmpV
  (repeat' split) <;> omega
theorem bet_cmp (a b : Vc) : bet a b = decide (cmp a b = -1) := by
  unfold bet betV cmp cmpV
  apply decide_eq_decide.mpr
  (repeat' split) <;> omega
theorem vc_ext {a b : Vc} (h0 : a.nm 0 = b.nm 0) (h1 : a.nm 1 = b.nm 1) (h2 : a.nm 2 = b.nm 2) (h3 : a.nm 3 = b.nm 3) : a = b := by
  apply Row.ext'
  rw [vc_cl a, vc_cl b, h0, h1, h2, h3]
theorem cmp_zero {a b : Vc} : cmp a b = 0 ↔ a = b := by
  constructor
  · intro h
    have : a.nm 0 = b.nm 0 ∧ a.nm 1 = b.nm 1 ∧ a.nm 2 = b.nm 2 ∧ a.nm 3 = b.nm 3 := by
      unfold cmp cmpV v4 at h
      simp only at h
      revert h
      (repeat' split) <;> intro h <;> omega
    exact vc_ext this.1 this.2.1 this.2.2.1 this.2.2.2
  · rintro rfl
    unfold cmp cmpV
    simp
theorem cmp_swap (a b : Vc) : cmp a b = - cmp b a := by
  unfold cmp cmpV
  (repeat' split) <;> omega
theorem cmp_trans {a b c : Vc} (h1 : cmp a b ≤ 0) (h2 : cmp b c ≤ 0) : cmp a c ≤ 0 := by
  unfold cmp cmpV at *
  generalize v4 a = x at *
  generalize v4 b = y at *
  generalize v4 c = z at *
  obtain ⟨x0, x1, x2, x3⟩ := x
  obtain ⟨y0, y1, y2, y3⟩ := y
  obtain ⟨z0, z1, z2, z3⟩ := z
  simp only at *
  have k1 : x0 < y0 ∨ x0 = y0 ∧ (x1 < y1 ∨ x1 = y1 ∧ (x2 < y2 ∨ x2 = y2 ∧ x3 ≤ y3)) := by
    revert h1
    (repeat' split) <;> intro h1 <;> omega
  have k2 : y0 < z0 ∨ y0 = z0 ∧ (y1 < z1 ∨ y1 = z1 ∧ (y2 < z2 ∨ y2 = z2 ∧ y3 ≤ z3)) := by
    revert h2
    (repeat' split) <;> intro h2 <;> omega
  clear h1 h2
  (repeat' split) <;> omega
/-- Does a port that leads to u count ahead of what stands? -/
def tkB (l : List Pt) (p : Pt) (u v : Vc) (k : Int) : Bool := decide (cmp u v = -1) || (decide (cmp u v = 0) && (decide (0 ≤ k) && decide (p.nm 0 < (gtP l k.toNat).nm 0)))
theorem tk_less {l : List Pt} {p : Pt} {u v : Vc} {k : Int} (h : cmp u v = -1) : (true && tkB l p u v k) = true := by simp [tkB, h]
theorem tk_more {l : List Pt} {p : Pt} {u v : Vc} {k : Int} (h : cmp u v = 1) : (true && tkB l p u v k) = false := by simp [tkB, h]
theorem tk_own {l : List Pt} {p : Pt} {u v : Vc} (h : cmp u v = 0) : (true && tkB l p u v (-1)) = false := by simp [tkB, h]
theorem tk_yes {l : List Pt} {p : Pt} {u v : Vc} {k : Nat} (h : cmp u v = 0) (hl : p.nm 0 < (gtP l k).nm 0) : (true && tkB l p u v (k : Int)) = true := by simp [tkB, h, hl]
theorem tk_no {l : List Pt} {p : Pt} {u v : Vc} {k : Nat} (h : cmp u v = 0) (hl : ¬ p.nm 0 < (gtP l k).nm 0) : (true && tkB l p u v (k : Int)) = false := by simp [tkB, h]; omega
def rtS (h : Hd) (l : List Pt) (i : Nat) (s : Vc × Int) : Vc × Int := if (ldB h (gtP l i) && tkB l (gtP l i) (addV (gtP l i)) s.1 s.2) = true then (addV (gtP l i), (i : Int)) else s
/-- The root vector of the first ports, and its place. -/
def rtF (h : Hd) (l : List Pt) : Nat → Vc × Int
  | 0 => (ownV h, -1)
  | i + 1 => rtS h l i (rtF h l i)
def rooV (h : Hd) (l : List Pt) : Vc := (rtF h l l.length).1
def rooK (h : Hd) (l : List Pt) : Int := (rtF h l l.length).2
theorem rtF_range (h : Hd) (l : List Pt) : ∀ i, -1 ≤ (rtF h l i).2 ∧ (rtF h l i).2 < i
  | 0 => by simp [rtF]
  | i + 1 => by
    have := rtF_range h l i
    unfold rtF rtS
    split
    · simp only; omega
    · omega
theorem rtF_no {h : Hd} {l : List Pt} {i : Nat} {v : Vc} {k : Int} (e : rtF h l i = (v, k)) (hb : (ldB h (gtP l i) && tkB l (gtP l i) (addV (gtP l i)) v k) = false) : rtF h l (i + 1) = (v, k) := by
  show rtS h l i (rtF h l i) = _
  rw [e]
  unfold rtS
  rw [if_neg (by rw [hb]; decide)]
theorem rtF_yes {h : Hd} {l : List Pt} {i : Nat} {v : Vc} {k : Int} (e : rtF h l i = (v, k)) (hb : (ldB h (gtP l i) && tkB l (gtP l i) (addV (gtP l i)) v k) = true) : rtF h l (i + 1) = (addV (gtP l i), (i : Int)) := by
  show rtS h l i (rtF h l i) = _
  rw [e]
  unfold rtS
  rw [if_pos hb]
/-- The variables of RootOf. -/
structure RS (w W : World) (b d e : Nat) (h : Hd) (a : Option Addr) (n c : Nat) (l : List Pt) (v : Vc) : Prop where
  var : RvAt W b 31 (trc h (.slice a n c))
  out : RvAt W d 28 zeroVc.cs
  root : RvAt W e 28 v.cs
  sl : SlAt W a n c l
  bel : Below w.heap.size w W
  hb : w.heap.size ≤ b
  hd : w.heap.size ≤ d
  he : w.heap.size ≤ e
  be : b ≠ e
  de : d ≠ e
theorem RS.below {w W V : World} {b d e n c : Nat} {h : Hd} {a : Option Addr} {l : List Pt} {v : Vc} (s : RS w W b d e h a n c l v) (k : Below W.heap.size W V) : RS w V b d e h a n c l v :=
  ⟨s.var.below k, s.out.below k, s.root.below k, s.sl.below k, below_over s.bel k, s.hb, s.hd, s.he, s.be, s.de⟩
theorem RS.st {w W : World} {b d e n c : Nat} {h : Hd} {a : Option Addr} {l : List Pt} {v : Vc} (s : RS w W b d e h a n c l v) (u : Vc) : ∃ V, (stS 28 (.pointer (some ⟨e, 0, none⟩)) (.agg u.cs)).run Try.prog W = .ok () V ∧ RS w V b d e h a n c l u := by
  obtain ⟨V, sV, rV, gV⟩ := s.root.vst (v := u)
  exact ⟨V, sV, s.var.keptBut gV (by simpa using s.be), s.out.keptBut gV (by simpa using s.de), rV, s.sl.keptZ s.root (by rw [Row.csize, lenV]; omega) gV, gro s.bel gV s.he s.bel.size, s.hb, s.hd, s.he, s.be, s.de⟩
theorem RS.tell {w W : World} {b d e n c : Nat} {h : Hd} {a : Option Addr} {l : List Pt} {v : Vc} (s : RS w W b d e h a n c l v) : ∃ V, (stS 28 (.pointer (some ⟨d, 0, none⟩)) (.agg v.cs)).run Try.prog W = .ok () V ∧ RvAt V d 28 v.cs ∧ Below w.heap.size w V := by
  obtain ⟨V, sV, rV, gV⟩ := s.out.vst (v := v)
  exact ⟨V, sV, rV, gro s.bel gV s.hd s.bel.size⟩
end Go.Proofs.Ytnblhmicbhblpab
