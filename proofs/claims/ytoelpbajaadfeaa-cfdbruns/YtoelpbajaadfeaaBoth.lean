/-
  A base and the definition's, side by side: what is kept; a call on both, and whether they stand alike: their walks.
-/
import Derived.Test.YtoelpbajaadfeaaOpen
import Derived.Test.YtoelpbajaadfeaaRFind
import Derived.Deep.CutRange
namespace Go.Proofs.Ytoelpbajaadfeaa
set_option linter.unusedVariables false
set_option maxRecDepth 4000
set_option linter.unusedSimpArgs false
open Go.RowKit

/-- The cells of the two. -/
def bcs (p : Nat) (c : Cf) (a : Option Addr) (n k : Nat) : Array Value := #[.pointer (some ⟨p, 0, none⟩), .int .i64 c.room, .int .i64 c.age, .slice a n k]
theorem infoBo : (Try.prog.info? 35).map (·.size) = some 4 := by kernel_rfl
theorem rtBo : RowTy 35 4 := ⟨infoBo, _, Try.underlying35, rfl⟩
/-- Block q holds the two. -/
def BoAt (W : World) (q p : Nat) (c : Cf) (a : Option Addr) (n k : Nat) : Prop := RvAt W q 35 (bcs p c a n k)
theorem BoAt.c0 {W : World} {q p : Nat} {c : Cf} {a : Option Addr} {n k : Nat} (h : BoAt W q p c a n k) : W.cell? ⟨q, 0, none⟩ = some (.pointer (some ⟨p, 0, none⟩)) := RvAt.cell h 0 _ rfl
theorem BoAt.c3 {W : World} {q p : Nat} {c : Cf} {a : Option Addr} {n k : Nat} (h : BoAt W q p c a n k) : W.cell? ⟨q, 3, none⟩ = some (.slice a n k) := RvAt.cell h 3 _ rfl
theorem BoAt.fz {W : World} {q p : Nat} {c : Cf} {a : Option Addr} {n k : Nat} (h : BoAt W q p c a n k) (o : Nat) : W.frozen? ⟨q, o, none⟩ = false := by
  unfold BoAt RvAt at h
  simp [World.frozen?, h]
theorem BoAt.below {W W' : World} {q p : Nat} {c : Cf} {a : Option Addr} {n k : Nat} (h : BoAt W q p c a n k) (hb : Below W.heap.size W W') : BoAt W' q p c a n k := RvAt.below h hb
theorem BoAt.ld {W : World} {q p : Nat} {c : Cf} {a : Option Addr} {n k : Nat} (h : BoAt W q p c a n k) : (ldS 29 (.pointer (some ⟨q, 1, none⟩))).run Try.prog W = .ok (.agg (c.rs a n k)) W :=
  run_loadAt_mid W q 1 29 (c.rs a n k).toList _ (fun j v hv => RvAt.cell h _ _ (by
    match j, hv with
    | 0, hx => cases hx; rfl
    | 1, hx => cases hx; rfl
    | 2, hx => cases hx; rfl
    | j + 3, hx => simp [Cf.rs] at hx)) Try.underlying29 rfl infoR
theorem BoAt.put {W : World} {q p : Nat} {c : Cf} {a a' : Option Addr} {n k n' k' : Nat} (h : BoAt W q p c a n k) :
    ∃ Y, (stS 29 (.pointer (some ⟨q, 1, none⟩)) (.agg (c.rs a' n' k'))).run Try.prog W = .ok () Y ∧ BoAt Y q p c a' n' k' ∧ W.grownBy Y (some q) := by
  have hs := store_cells (ty := 29) (W := W) (b := q) (o := 1) (t := 35) (cur := bcs p c a n k) (cs := c.rs a' n' k') h infoR (by simp [bcs, Cf.rs]) (Cf.rone c a' n' k')
  refine ⟨_, hs, ?_, ?_⟩
  · have := RvAt.set (ds := ((bcs p c a n k).toList.take 1 ++ (c.rs a' n' k').toList ++ (bcs p c a n k).toList.drop (1 + (c.rs a' n' k').size)).toArray) h
    exact this
  · exact ⟨rfl, rfl, rfl, by simp, fun i hi hne => setRow_other W q i _ (fun e => hne (by rw [e]))⟩
theorem BoAt.setp {W : World} {q p p' : Nat} {c : Cf} {a : Option Addr} {n k : Nat} (h : BoAt W q p c a n k) : BoAt (W.setCell ⟨q, 0, none⟩ (.pointer (some ⟨p', 0, none⟩))) q p' c a n k ∧ W.grownBy (W.setCell ⟨q, 0, none⟩ (.pointer (some ⟨p', 0, none⟩))) (some q) := by
  unfold BoAt RvAt at h ⊢
  constructor
  · simp [World.setCell, h, Array.getElem?_modify, bcs]
  · refine ⟨rfl, rfl, rfl, by simp, fun i hi hne => ?_⟩
    exact RowKit.Below.heap_setCell _ _ _ _ (fun e => hne (by rw [e]))
/-- A base and the definition's, side by side. -/
structure St (w X : World) (q p b : Nat) (c : Cf) (m r : List En) (a : Option Addr) (k : Nat) : Prop where
  db : Db X p b c m
  bo : BoAt X q p c a r.length k
  sl : SlAt X a r.length k r
  blk : ∀ x, a = some x → x.block ≠ b ∧ x.block ≠ q
  np : q ≠ p
  nb : q ≠ b
  lb : w.heap.size ≤ b
  lq : w.heap.size ≤ q
  bel : Below w.heap.size w X
theorem RvAt.keptBut {W W' : World} {b : Nat} {ty : TypeId} {cs : Array Value} {row : Option Nat} (h : RvAt W b ty cs) (hg : W.grownBy W' row) (hn : some b ≠ row) : RvAt W' b ty cs := (hg.block b h.lt hn).trans h
theorem St.lt {w X : World} {q p b : Nat} {c : Cf} {m r : List En} {a : Option Addr} {k : Nat} (h : St w X q p b c m r a k) : q < X.heap.size ∧ p < X.heap.size ∧ b < X.heap.size := ⟨RvAt.lt h.bo, h.db.lt.1, h.db.lt.2⟩
theorem St.below {w X Y : World} {q p b : Nat} {c : Cf} {m r : List En} {a : Option Addr} {k : Nat} (h : St w X q p b c m r a k) (hb : Below X.heap.size X Y) : St w Y q p b c m r a k :=
  ⟨h.db.below hb, h.bo.below hb, h.sl.below hb, h.blk, h.np, h.nb, h.lb, h.lq, below_over h.bel hb⟩
theorem St.code {w X V : World} {q p b : Nat} {c : Cf} {m m' r : List En} {a : Option Addr} {k : Nat} (h : St w X q p b c m r a k) (d : Db V p b c m') (g : X.grownBy V (some b)) : St w V q p b c m' r a k :=
  ⟨d, RvAt.keptBut h.bo g (fun e => h.nb (by cases e; rfl)), h.sl.keptBut g (fun x hx e => (h.blk x hx).1 (by cases e; rfl)), h.blk, h.np, h.nb, h.lb, h.lq, h.bel.trans (below_of_grown g h.bel.size (fun j e => by cases e; exact h.lb))⟩
/-- What the definition told, stored. -/
theorem St.ref {w V X : World} {q p b : Nat} {c : Cf} {m r r' : List En} {a a' : Option Addr} {k k' : Nat} (h : St w V q p b c m r a k) (hs : SlAt X a' r'.length k' r') (ha : ∀ x, a' = some x → a = some x ∨ V.heap.size ≤ x.block) (hb : Below V.heap.size V X) :
    ∃ Y, (stS 29 (.pointer (some ⟨q, 1, none⟩)) (.agg (c.rs a' r'.length k'))).run Try.prog X = .ok () Y ∧ St w Y q p b c m r' a' k' := by
  have hX := h.below hb
  obtain ⟨Y, g1, g2, g3⟩ := hX.bo.put (a' := a') (n' := r'.length) (k' := k')
  have hlt := h.lt
  have nbk : ∀ x, a' = some x → x.block ≠ b ∧ x.block ≠ q := fun x hx => by
    rcases ha x hx with e | e
    · exact h.blk x e
    · exact ⟨by omega, by omega⟩
  exact ⟨Y, g1, ⟨hX.db.kept g3 (fun e => h.np (by cases e; rfl)) (fun e => h.nb (by cases e; rfl)), g2, hs.keptBut g3 (fun x hx e => (nbk x hx).2 (by cases e; rfl)), nbk, h.np, h.nb, h.lb, h.lq, hX.bel.trans (below_of_grown g3 hX.bel.size (fun j e => by cases e; exact h.lq))⟩⟩
attribute [local go_sem ↓] ldK stK ldM stM ldP stP ldE stE apE ldR stR ldO stO
/-- What a call makes of the entries. -/
def stepS (c : Cf) (l : List En) (o : Oq) : List En :=
  if o.act.tmod 8 = 4 then (remS l (ageSh c.age o.tick)).1 else if o.act.tmod 8 = 5 then (remS l (flushSh [o.isid, o.other])).1 else if o.act.tmod 8 = 6 then (remS l (goneSh o.b)).1 else if o.act.tmod 8 = 7 then l else (learnS c l o.en).1
theorem isat_new (X : World) (t : TypeId) (vs : Array Value) (ns : List Int) (h : vs.toList = ns.map (Value.int .i64)) : IsAt (X.alloc (.cells vs t)) X.heap.size ns := by
  intro i v hv
  refine RvAt.cell (RvAt.new X t vs) i _ ?_
  rw [← Array.getElem?_toList, h, List.getElem?_map, hv]
  rfl
/-- All as it was but block b. -/
structure LaterB (W : World) (b : Nat) where
  val : World
  gr : W.grownBy val (some b)
/-- The definition has answered and the variable for it is there. -/
structure Nx (V X : World) (a ra : Option Addr) (rk nb : Nat) (l : List En) : Prop where
  row : RvAt X nb 29 #[.int .i64 0, .int .i64 0, .slice none 0 0]
  sl : SlAt X ra l.length rk l
  fr : ∀ x, ra = some x → (a = some x ∨ V.heap.size ≤ x.block) ∧ x.block ≠ nb
  lo : V.heap.size ≤ nb
  bl : Below V.heap.size V X
theorem Nx.of_call {V X X' : World} {a ra : Option Addr} {rk nb n k : Nat} {l l0 : List En} (hn : RvAt X nb 29 #[.int .i64 0, .int .i64 0, .slice none 0 0]) (hlo : V.heap.size ≤ nb) (hB : Below V.heap.size V X) (hs : SlAt X' ra l.length rk l) (hr : ∀ x, ra = some x → a = some x ∨ X.heap.size ≤ x.block) (hb : Below X.heap.size X X') (ha : SlAt V a n k l0) : Nx V X' a ra rk nb l := by
  refine ⟨hn.below hb, hs, fun x hx => ?_, hlo, below_over hB hb⟩
  have h1 := hB.size
  have h2 := hn.lt
  rcases hr x hx with e | e
  · have := ha.blk x e
    exact ⟨.inl e, by omega⟩
  · exact ⟨.inr (by omega), by omega⟩
theorem Nx.of_alloc {V X : World} {a ra : Option Addr} {rk : Nat} {l : List En} (hs : SlAt X ra l.length rk l) (hr : ∀ x, ra = some x → a = some x ∨ V.heap.size ≤ x.block) (hB : Below V.heap.size V X) : Nx V (X.alloc (.cells #[.int .i64 0, .int .i64 0, .slice none 0 0] 29)) a ra rk X.heap.size l :=
  ⟨RvAt.new _ _ _, hs.below ((Below.refl _ _).alloc (Nat.le_refl _) _), fun x hx => ⟨hr x hx, by have := hs.blk x hx; omega⟩, hB.size, hB.alloc hB.size _⟩
theorem Nx.store {V X : World} {a ra : Option Addr} {rk nb : Nat} {l : List En} (h : Nx V X a ra rk nb l) (c : Cf) :
    ∃ Y, (stS 29 (.pointer (some ⟨nb, 0, none⟩)) (.agg (c.rs ra l.length rk))).run Try.prog X = .ok () Y ∧ RvAt Y nb 29 (c.rs ra l.length rk) ∧ SlAt Y ra l.length rk l ∧ (∀ x, ra = some x → a = some x ∨ V.heap.size ≤ x.block) ∧ Below V.heap.size V Y := by
  obtain ⟨Y, s, r, g, z⟩ := h.row.put rtR rfl (Cf.rsize c ra l.length rk) (Cf.rone _ _ _ _)
  exact ⟨Y, s, r, h.sl.keptBut g (fun x hx e => (h.fr x hx).2 (Option.some.inj e)), fun x hx => (h.fr x hx).1, h.bl.trans (below_of_grown g h.bl.size (fun j e => by cases e; exact h.lo))⟩
end Go.Proofs.Ytoelpbajaadfeaa
