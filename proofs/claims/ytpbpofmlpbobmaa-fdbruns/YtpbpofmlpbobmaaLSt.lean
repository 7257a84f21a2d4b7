/-
  Every run of calls, beside the reference's: what is kept.
-/
import Derived.Test.YtpbpofmlpbobmaaOpen
import Derived.Test.YtpbpofmlpbobmaaRAge
import Derived.Test.YtpbpofmlpbobmaaRSame
import Derived.Test.YtpbpofmlpbobmaaAllW
namespace Go.Proofs.Ytpbpofmlpbobmaa
set_option linter.unusedVariables false
set_option maxRecDepth 4000
set_option linter.unusedSimpArgs false
open Go.RowKit

/-- A database and the reference's, side by side. -/
structure St (w wx : World) (rb p b : Nat) (c : Cf) (m r : List En) (a : Option Addr) (k : Nat) : Prop where
  db : Db wx p b c m
  rd : RdAt wx rb c a r.length k
  sl : SlAt wx a r.length k r
  blk : ∀ x, a = some x → x.block ≠ b ∧ x.block ≠ rb
  np : rb ≠ p
  nb : rb ≠ b
  lb : w.heap.size ≤ b
  lr : w.heap.size ≤ rb
  bel : Below w.heap.size w wx
theorem RvAt.keptBut {W W' : World} {b : Nat} {ty : TypeId} {cs : Array Value} {row : Option Nat} (h : RvAt W b ty cs) (hg : W.grownBy W' row) (hn : some b ≠ row) : RvAt W' b ty cs := (hg.block b h.lt hn).trans h
theorem St.below {w wx wy : World} {rb p b : Nat} {c : Cf} {m r : List En} {a : Option Addr} {k : Nat} (h : St w wx rb p b c m r a k) (hb : Below wx.heap.size wx wy) : St w wy rb p b c m r a k :=
  ⟨h.db.below hb, h.rd.below hb, h.sl.below hb, h.blk, h.np, h.nb, h.lb, h.lr, below_over h.bel hb⟩
theorem St.code {w wx V : World} {rb p b : Nat} {c : Cf} {m m' r : List En} {a : Option Addr} {k : Nat} (h : St w wx rb p b c m r a k) (d : Db V p b c m') (g : wx.grownBy V (some b)) : St w V rb p b c m' r a k :=
  ⟨d, RvAt.keptBut h.rd g (fun e => h.nb (by cases e; rfl)), h.sl.keptBut g (fun x hx e => (h.blk x hx).1 (by cases e; rfl)), h.blk, h.np, h.nb, h.lb, h.lr, h.bel.trans (below_of_grown g h.bel.size (fun j e => by cases e; exact h.lb))⟩
theorem St.st_row {W : World} {b : Nat} {c : Cf} {a : Option Addr} {n k : Nat} {ds : Array Value} (h : RdAt W b c a n k) (hd : ds.size = 4) (h1 : ∀ v ∈ ds.toList, v.oneCell' = true) : ∃ Y, (stS 29 (.pointer (some ⟨b, 0, none⟩)) (.agg ds)).run Try.prog W = .ok () Y ∧ RvAt Y b 29 ds ∧ W.grownBy Y (some b) := by
  refine ⟨_, RvAt.st rtR h rfl hd h1, RvAt.set h, ?_⟩
  exact ⟨rfl, rfl, rfl, by simp, fun i hi hne => setRow_other W b i ds (fun e => hne (by rw [e]))⟩
theorem St.ref {w V X : World} {rb p b : Nat} {c : Cf} {m r r' : List En} {a : Option Addr} {k : Nat} {v : Value} (h : St w V rb p b c m r a k) (o : RfOr a V.heap.size X v c r') (hb : Below V.heap.size V X) :
    ∃ a' k' Y, v = .agg (c.rs a' r'.length k') ∧ (stS 29 (.pointer (some ⟨rb, 0, none⟩)) (.agg (c.rs a' r'.length k'))).run Try.prog X = .ok () Y ∧ St w Y rb p b c m r' a' k' ∧ X.grownBy Y (some rb) := by
  obtain ⟨a', k', rfl, sl, ha⟩ := o
  have hX := h.below hb
  have g := St.st_row hX.rd (Cf.rsize c a' r'.length k') (Cf.rone c a' r'.length k')
  have hlt := h.db.lt
  have hrl := RvAt.lt h.rd
  have nbk : ∀ x, a' = some x → x.block ≠ b ∧ x.block ≠ rb := fun x hx => by
    rcases ha x hx with e | e
    · exact h.blk x e
    · exact ⟨by omega, by omega⟩
  obtain ⟨Y, g1, g2, g3⟩ := g
  refine ⟨a', k', Y, rfl, g1, ⟨hX.db.kept g3 (fun e => h.np (by cases e; rfl)) (fun e => h.nb (by cases e; rfl)), g2, sl.keptBut g3 (fun x hx e => (nbk x hx).2 (by cases e; rfl)), nbk, h.np, h.nb, h.lb, h.lr, hX.bel.trans (below_of_grown g3 hX.bel.size (fun j e => by cases e; exact h.lr))⟩, g3⟩
theorem St.fork {w wx V : World} {rb p b p' b' : Nat} {c : Cf} {m r : List En} {a : Option Addr} {k : Nat} (h : St w wx rb p b c m r a k) (d : Db V p' b' c m) (hb : Below wx.heap.size wx V) (hp : wx.heap.size ≤ p') (hb' : wx.heap.size ≤ b') : St w V rb p' b' c m r a k := by
  have hrl := RvAt.lt h.rd
  have hs := h.bel.size
  exact ⟨d, h.rd.below hb, h.sl.below hb, (fun x hx => ⟨by have := h.sl.blk x hx; omega, (h.blk x hx).2⟩), by omega, by omega, by omega, h.lr, below_over h.bel hb⟩
theorem St.keep {w wx V : World} {rb p b b0 : Nat} {c : Cf} {m r : List En} {a : Option Addr} {k : Nat} (h : St w wx rb p b c m r a k) (g : wx.grownBy V (some b0)) (h1 : p ≠ b0) (h2 : b ≠ b0) (h3 : rb ≠ b0) (h4 : ∀ x, a = some x → x.block ≠ b0) (h5 : w.heap.size ≤ b0) : St w V rb p b c m r a k :=
  ⟨h.db.kept g (fun e => h1 (by cases e; rfl)) (fun e => h2 (by cases e; rfl)), RvAt.keptBut h.rd g (fun e => h3 (by cases e; rfl)), h.sl.keptBut g (fun x hx e => h4 x hx (by cases e; rfl)), h.blk, h.np, h.nb, h.lb, h.lr, h.bel.trans (below_of_grown g h.bel.size (fun j e => by cases e; exact h5))⟩
end Go.Proofs.Ytpbpofmlpbobmaa
