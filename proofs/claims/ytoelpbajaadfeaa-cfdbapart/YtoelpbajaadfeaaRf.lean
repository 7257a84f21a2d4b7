/-
  The definition's bases in memory: their cells, parts of their rows. Plain laws over the program's types.
-/
import Derived.Test.YtoelpbajaadfeaaEns
namespace Go.Proofs.Ytoelpbajaadfeaa
set_option linter.unusedVariables false
set_option maxRecDepth 4000
set_option linter.unusedSimpArgs false
open Go.RowKit

/-- The cells of the definition's base. -/
def Cf.rs (c : Cf) (a : Option Addr) (n k : Nat) : Array Value := #[.int .i64 c.room, .int .i64 c.age, .slice a n k]
theorem Cf.rsize (c : Cf) (a : Option Addr) (n k : Nat) : (c.rs a n k).size = 3 := rfl
theorem Cf.rone (c : Cf) (a : Option Addr) (n k : Nat) : ∀ v ∈ (c.rs a n k).toList, v.oneCell' = true := by
  intro v hv
  simp only [Cf.rs, List.mem_cons, List.not_mem_nil, or_false] at hv
  rcases hv with rfl | rfl | rfl <;> rfl
theorem infoR : (Try.prog.info? 29).map (·.size) = some 3 := by kernel_rfl
theorem rtR : RowTy 29 3 := ⟨infoR, _, Try.underlying29, rfl⟩
theorem ldR (x : Value) : Instr.loadAt 29 x = ldS 29 x := rfl
theorem stR (x y : Value) : Instr.storeAt 29 x y = stS 29 x y := rfl
/-- Block b is a variable of the definition's base. -/
def RdAt (W : World) (b : Nat) (c : Cf) (a : Option Addr) (n k : Nat) : Prop := RvAt W b 29 (c.rs a n k)
theorem RdAt.c1 {W : World} {b : Nat} {c : Cf} {a : Option Addr} {n k : Nat} (h : RdAt W b c a n k) : W.cell? ⟨b, 0, none⟩ = some (.int .i64 c.room) := RvAt.cell h 0 _ rfl
theorem RdAt.c2 {W : World} {b : Nat} {c : Cf} {a : Option Addr} {n k : Nat} (h : RdAt W b c a n k) : W.cell? ⟨b, 1, none⟩ = some (.int .i64 c.age) := RvAt.cell h 1 _ rfl
theorem RdAt.c3 {W : World} {b : Nat} {c : Cf} {a : Option Addr} {n k : Nat} (h : RdAt W b c a n k) : W.cell? ⟨b, 2, none⟩ = some (.slice a n k) := RvAt.cell h 2 _ rfl
theorem RdAt.below {W W' : World} {b : Nat} {c : Cf} {a : Option Addr} {n k : Nat} (h : RdAt W b c a n k) (hb : Below W.heap.size W W') : RdAt W' b c a n k := RvAt.below h hb
theorem RdAt.ld {W : World} {b : Nat} {c : Cf} {a : Option Addr} {n k : Nat} (h : RdAt W b c a n k) : (ldS 29 (.pointer (some ⟨b, 0, none⟩))).run Try.prog W = .ok (.agg (c.rs a n k)) W := RvAt.ld rtR h rfl
theorem RdAt.fz {W : World} {b : Nat} {c : Cf} {a : Option Addr} {n k : Nat} (h : RdAt W b c a n k) (o : Nat) : W.frozen? ⟨b, o, none⟩ = false := by
  unfold RdAt RvAt at h
  simp [World.frozen?, h]
/-- Another row, stored. -/
theorem RdAt.set {W : World} {b : Nat} {c : Cf} {a a' : Option Addr} {n k n' k' : Nat} (h : RdAt W b c a n k) : RdAt (W.setCell ⟨b, 2, none⟩ (.slice a' n' k')) b c a' n' k' ∧ W.grownBy (W.setCell ⟨b, 2, none⟩ (.slice a' n' k')) (some b) := by
  unfold RdAt RvAt at h ⊢
  constructor
  · simp [World.setCell, h, Array.getElem?_modify, Cf.rs]
  · refine ⟨rfl, rfl, rfl, by simp, fun i hi hne => ?_⟩
    exact RowKit.Below.heap_setCell _ _ _ _ (fun e => hne (by rw [e]))
theorem RdAt.put {W : World} {b : Nat} {c c' : Cf} {a a' : Option Addr} {n k n' k' : Nat} (h : RdAt W b c a n k) :
    ∃ W', (stS 29 (.pointer (some ⟨b, 0, none⟩)) (.agg (c'.rs a' n' k'))).run Try.prog W = .ok () W' ∧ RdAt W' b c' a' n' k' ∧ W.grownBy W' (some b) ∧ W'.heap.size = W.heap.size :=
  RvAt.put rtR h rfl rfl (c'.rone _ _ _)
/-- The value is the definition's base with the entries l, its row that of a or from block B on. -/
def RfOr (a : Option Addr) (B : Nat) (W : World) (v : Value) (c : Cf) (l : List En) : Prop := ∃ a' k, v = .agg (c.rs a' l.length k) ∧ SlAt W a' l.length k l ∧ ∀ x, a' = some x → a = some x ∨ B ≤ x.block
/-- A base and a number are told. -/
def PutOut (a : Option Addr) (B : Nat) (c : Cf) (o : List En × Int) (r : Ending) (W : World) : Prop := ∃ v, r = .returned (.tuple #[v, .int .i64 o.2]) ∧ RfOr a B W v c o.1
theorem RfOr.same {w V : World} {a : Option Addr} {n k : Nat} {c : Cf} {l : List En} (h : SlAt w a n k l) (hb : Below w.heap.size w V) (B : Nat) : RfOr a B V (.agg (c.rs a n k)) c l :=
  ⟨a, k, by rw [h.len], by rw [h.len]; exact h.below hb, fun x e => .inl e⟩
theorem two_rf (w : World) (c : Cf) (a : Option Addr) (n k : Nat) : ∃ W, (w.alloc (.cells (c.rs a n k) 29)).alloc (.cells #[.int .i64 0, .int .i64 0, .slice none 0 0] 29) = W ∧ RdAt W w.heap.size c a n k ∧ RdAt W (w.heap.size + 1) ⟨0, 0⟩ none 0 0 ∧ Below w.heap.size w W ∧ W.heap.size = w.heap.size + 2 :=
  ⟨_, rfl, (RvAt.new w _ _).below ((Below.refl _ _).alloc (Nat.le_refl _) _), by have := RvAt.new (w.alloc (.cells (c.rs a n k) 29)) 29 (Cf.rs ⟨0, 0⟩ none 0 0); simp at this; exact this, ((Below.refl _ _).alloc (Nat.le_refl _) _).alloc (by simp) _, by simp⟩
theorem two_rm (w : World) (c : Cf) (a : Option Addr) (n k : Nat) (q : Ad) : ∃ W, (w.alloc (.cells (c.rs a n k) 29)).alloc (.cells q.cs 38) = W ∧ RdAt W w.heap.size c a n k ∧ RvAt W (w.heap.size + 1) 38 q.cs ∧ Below w.heap.size w W ∧ W.heap.size = w.heap.size + 2 :=
  ⟨_, rfl, (RvAt.new w _ _).below ((Below.refl _ _).alloc (Nat.le_refl _) _), by have := RvAt.new (w.alloc (.cells (c.rs a n k) 29)) 38 q.cs; simp at this; exact this, ((Below.refl _ _).alloc (Nat.le_refl _) _).alloc (by simp) _, by simp⟩
theorem RvAt.lda {W : World} {b : Nat} {q : Ad} (h : RvAt W b 38 q.cs) : (ldS 38 (.pointer (some ⟨b, 0, none⟩))).run Try.prog W = .ok (.agg #[.int .u8 q.a, .int .u8 q.b, .int .u8 q.c, .int .u8 q.d, .int .u8 q.e, .int .u8 q.f]) W := h.ld rtM (Ad.size q)
/-- An entry more, appended by a slice of one. -/
theorem Own.one {wr W1 : World} {a6 : Option Addr} {m6 c6 : Nat} {acc : List En} (x : En) (h : Own wr W1.heap.size (.slice a6 m6 c6) acc) (hB : Below W1.heap.size W1 wr) (hl : acc.length ≤ 1000) :
    ∃ Y1 Y2 a7 m7 c7, wr.alloc (.cells #[.int .i64 x.k.vid, .int .u8 x.k.a, .int .u8 x.k.b, .int .u8 x.k.c, .int .u8 x.k.d, .int .u8 x.k.e, .int .u8 x.k.f, .int .u8 x.bm.a, .int .u8 x.bm.b, .int .u8 x.bm.c, .int .u8 x.bm.d, .int .u8 x.bm.e, .int .u8 x.bm.f, .int .i64 x.seen] 51) = Y1 ∧
      (apS 27 #[.slice a6 m6 c6, .slice (some ⟨wr.heap.size, 0, none⟩) 1 1]).run Try.prog Y1 = .ok (.slice a7 m7 c7) Y2 ∧ Own Y2 W1.heap.size (.slice a7 m7 c7) (acc ++ [x]) ∧ Below W1.heap.size W1 Y2 ∧ (acc ++ [x]).length = m7 := by
  obtain ⟨Y1, hY1⟩ : ∃ Y1, wr.alloc (.cells x.cs 51) = Y1 := ⟨_, rfl⟩
  have b1 : Below wr.heap.size wr Y1 := by rw [← hY1]; exact (Below.refl _ _).alloc (Nat.le_refl _) _
  have s1 : SlAt Y1 (some ⟨wr.heap.size, 0, none⟩) 1 1 [x] := by rw [← hY1]; exact one_new wr x
  have o1 := h.below b1
  obtain ⟨v2, Y2, ap2, o2, g2⟩ := o1.app s1 (by simp only [List.length_singleton]; omega) (Nat.le_trans hB.size b1.size) 27
  have b12 := below_over hB b1
  have hB2 : Below W1.heap.size W1 Y2 := b12.trans (below_of_grown g2 b12.size (fun j e => (World.ownsRow.lt o1 j e).1))
  obtain ⟨a7, c7, hv7, s7, _⟩ := o2.form
  subst hv7
  exact ⟨Y1, Y2, a7, _, c7, hY1, ap2, o2, hB2, rfl⟩
end Go.Proofs.Ytoelpbajaadfeaa
