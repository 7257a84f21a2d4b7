/-
  The walks of which frames are the same, and by definition: for all frames.
-/
import Derived.Test.YteljcgdenagcmaaSmall
namespace Go.Proofs.Yteljcgdenagcmaa
set_option linter.unusedVariables false
set_option maxRecDepth 4000
set_option linter.unusedSimpArgs false
open Go.RowKit

attribute [local go_sem ↓] ldS23 ldS25 ldS38 stS38 nqS_eq eqS_eq eqM_eq

def tagEq (f g : Fr) : Bool := decide (f.p = g.p ∧ f.e = g.e ∧ f.v = g.v)
/-- Are frames the same? -/
def sameB (f : Fr) (l : List Int) (g : Fr) (m : List Int) : Bool := f.d.same g.d && (f.s.same g.s && ((f.t == g.t) && (tagEq f g && beqL l m)))
theorem M6.same_self (m : M6) : m.same m = true := eq6_self _ _ _ _ _ _
theorem same_self (f : Fr) (l : List Int) : sameB f l f l = true := by simp [sameB, M6.same_self, tagEq, beqL_self]

set_option maxHeartbeats 1000000 in
theorem sameref_any (f g : Fr) (x y : Value) (l m : List Int) (w : World) (hx : Src w x l) (hy : Src w y m) :
    Calls Try.prog 14 #[.agg (fcs f x), .agg (fcs g y)] w fun r w' => r = .returned (.bool (sameB f l g m)) ∧ Below w.heap.size w w' := by
  have hB : Below w.heap.size w ((w.alloc (.cells (fcs f x) 38)).alloc (.cells (fcs g y) 38)) := ((Below.refl _ _).alloc (Nat.le_refl _) _).alloc (by simp) _
  have hF : FrAt ((w.alloc (.cells (fcs f x) 38)).alloc (.cells (fcs g y) 38)) w.heap.size f x := (FrAt.new w f x).below ((Below.refl _ _).alloc (Nat.le_refl _) _)
  have hG := FrAt.new (w.alloc (.cells (fcs f x) 38)) g y
  simp only [World.size_alloc] at hG
  have S1 := hx.below hB
  have S2 := hy.below hB
  have q1 := S1.string
  have q2 := S2.string
  have f1 := hF.ldd
  have f2 := hF.lds
  have f3 := hF.ldt
  have f4 := hF.c12
  have f5 := hF.c16
  have g1 := hG.ldd
  have g2 := hG.lds
  have g3 := hG.ldt
  have g4 := hG.c12
  have g5 := hG.c16
  have e1 := guard_mac .eql
  have e2 := guard_tags .eql
  have e3 := eqM_mac
  have e4 := eqS_tag f g
  have hS : sameB f l g m = (f.d.same g.d && (f.s.same g.s && ((f.t == g.t) && (tagEq f g && beqL l m)))) := rfl
  have HS : Hid (sameB f l g m = (f.d.same g.d && (f.s.same g.s && ((f.t == g.t) && (tagEq f g && beqL l m))))) := hS
  have HB : Hid (Below w.heap.size w ((w.alloc (.cells (fcs f x) 38)).alloc (.cells (fcs g y) 38))) := hB
  clear hx hy hB hF hG S1 S2 hS
  obtain ⟨b1, h1⟩ : ∃ b, f.d.same g.d = b := ⟨_, rfl⟩
  obtain ⟨b2, h2⟩ : ∃ b, f.s.same g.s = b := ⟨_, rfl⟩
  obtain ⟨b3, h3⟩ : ∃ b, (f.t == g.t) = b := ⟨_, rfl⟩
  obtain ⟨b4, h4⟩ : ∃ b, tagEq f g = b := ⟨_, rfl⟩
  have e4' : ∀ W, (eqS f.tag g.tag).run Try.prog W = .ok (.bool b4) W := fun W => by rw [← h4]; exact e4 W
  rw [h1, h2, h3, h4] at HS
  clear e4 h4
  cases b1
  · go_enter Try.func14, Try.ntmps14
    go_wp2
    go_ret
    exact ⟨ret_bool (by rw [HS.out]; rfl), HB.out⟩
  cases b2
  · go_enter Try.func14, Try.ntmps14
    go_wp2
    go_ret
    exact ⟨ret_bool (by rw [HS.out]; rfl), HB.out⟩
  cases b3
  · go_enter Try.func14, Try.ntmps14
    go_wp2
    go_ret
    exact ⟨ret_bool (by rw [HS.out]; rfl), HB.out⟩
  cases b4
  · go_enter Try.func14, Try.ntmps14
    go_wp2
    go_ret
    exact ⟨ret_bool (by rw [HS.out]; rfl), HB.out⟩
  · go_enter Try.func14, Try.ntmps14
    go_wp2
    go_ret
    exact ⟨ret_bool (by rw [HS.out]; rfl), HB.out⟩

end Go.Proofs.Yteljcgdenagcmaa
