/-
  A tree's variable of the statements: kept, stored anew; the first ports of a tree. Plain laws over the program's types.
-/
import Derived.Test.YtlneoegmlcbidaaAwake
import Derived.Test.YtlneoegmlcbidaaLPure
import Derived.Test.YtlneoegmlcbidaaSame
namespace Go.Proofs.Ytlneoegmlcbidaa
set_option linter.unusedVariables false
set_option maxRecDepth 4000
set_option linter.unusedSimpArgs false
open Go.RowKit

/-- A row of ports is no tree's variable. -/
theorem SlAt.off {W : World} {b n c : Nat} {h : Hd} {x : Value} {a : Option Addr} {l : List Pt} (s : SlAt W a n c l) (r : RvAt W b 31 (trc h x)) (hn : 0 < n) : ∀ y, a = some y → y.block ≠ b := by
  intro y hy e
  obtain ⟨b', o, e', hc⟩ := s.cells y hy hn
  subst e'
  simp only at e
  subst e
  have hl := s.len
  have hf := hc 76 _ (List.getElem?_eq_getElem (by rw [flat_len]; omega))
  have hsz := trc_size h x
  unfold World.cell? at hf
  rw [show W.heap[b']? = some (.cells (trc h x) 31 (0, 0)) from r] at hf
  simp only at hf
  rw [Array.getElem?_eq_none (by omega)] at hf
  simp at hf
theorem SlAt.keptT {W V : World} {b n c : Nat} {h : Hd} {x : Value} {a : Option Addr} {l : List Pt} (s : SlAt W a n c l) (r : RvAt W b 31 (trc h x)) (g : W.grownBy V (some b)) : SlAt V a n c l := by
  by_cases hn : 0 < n
  · exact s.keptBut g (fun y hy e => s.off r hn y hy (by simpa using e))
  · exact ⟨s.len, s.cap, s.max, s.nil, fun y _ h1 => absurd h1 hn⟩
/-- A tree in a variable. -/
structure TQ (w W : World) (b : Nat) (h : Hd) (a : Option Addr) (n c : Nat) (l : List Pt) : Prop where
  var : RvAt W b 31 (trc h (.slice a n c))
  sl : SlAt W a n c l
  bel : Below w.heap.size w W
  hb : w.heap.size ≤ b
theorem TQ.below {w W V : World} {b n c : Nat} {h : Hd} {a : Option Addr} {l : List Pt} (t : TQ w W b h a n c l) (k : Below W.heap.size W V) : TQ w V b h a n c l := ⟨t.var.below k, t.sl.below k, below_over t.bel k, t.hb⟩
theorem TQ.ld {w W : World} {b n c : Nat} {h : Hd} {a : Option Addr} {l : List Pt} (t : TQ w W b h a n c l) : (ldS 31 (.pointer (some ⟨b, 0, none⟩))).run Try.prog W = .ok (.agg (trc h (.slice a n c))) W := t.var.tld
theorem TQ.st {w W : World} {b n c : Nat} {h : Hd} {a : Option Addr} {l : List Pt} (t : TQ w W b h a n c l) {a' : Option Addr} {c' : Nat} {l' : List Pt} (s : SlAt W a' n c' l') : ∃ V, (stS 31 (.pointer (some ⟨b, 0, none⟩)) (.agg (trc h (.slice a' n c')))).run Try.prog W = .ok () V ∧ TQ w V b h a' n c' l' ∧ W.grownBy V (some b) := by
  obtain ⟨V, e, r, g⟩ := t.var.tst (g := h) (y := .slice a' n c') rfl
  exact ⟨V, e, ⟨r, s.keptT t.var g, gro t.bel g t.hb t.bel.size, t.hb⟩, g⟩
/-- .. a new one. -/
theorem TQ.new {w W : World} {n c : Nat} {h : Hd} {a : Option Addr} {l : List Pt} (s : SlAt W a n c l) (hB : Below w.heap.size w W) : ∃ V, (stS 31 (.pointer (some ⟨W.heap.size, 0, none⟩)) (.agg (trc h (.slice a n c)))).run Try.prog (W.alloc (.cells #[.int .u64 0, .int .u8 0, .int .u8 0, .int .u8 0, .int .u8 0, .int .u8 0, .bool false, .int .u16 0, .int .u64 0, .int .u32 0, .int .u64 0, .int .u16 0, .int .u8 0, .int .u8 0, .int .u8 0, .int .u8 0, .slice none 0 0] 31)) = .ok () V ∧ TQ w V W.heap.size h a n c l ∧ Below W.heap.size W V := by
  obtain ⟨V, e, r, b, z⟩ := new_tv W h (.slice a n c) rfl
  exact ⟨V, e, ⟨r, s.below b, below_over hB b, hB.size⟩, b⟩
/-- A cell of a port of it. -/
theorem TQ.cell {w W : World} {b n c g o k : Nat} {h : Hd} {l : List Pt} {p : Pt} (t : TQ w W b h (some ⟨g, o, none⟩) n c l) (hk : l[k]? = some p) {j : Nat} {v : Value} (hv : p.cl[j]? = some v) (hj : j < 77) : W.cell? ⟨g, o + k * 77 + j, none⟩ = some v := t.sl.cell hk hv hj
theorem few_len (l : List Pt) : (l.take 10).length ≤ 10 := by rw [List.length_take]; omega
/-- Behind Few: the first ports are in the variable. -/
theorem few_in {w W W1 : World} {b n0 c0 : Nat} {h : Hd} {a0 : Option Addr} {l : List Pt} {v : Value} (r : RvAt W b 31 (trc h (.slice a0 n0 c0))) (hB : Below w.heap.size w W) (hb : w.heap.size ≤ b) (b1 : Below W.heap.size W W1) (o : Own W1 W.heap.size v (l.take 10)) :
    ∃ ls a n c V, ls.length = n ∧ n ≤ 10 ∧ v = .slice a n c ∧ (stS 31 (.pointer (some ⟨b, 0, none⟩)) (.agg (trc h (.slice a n c)))).run Try.prog W1 = .ok () V ∧ TQ w V b h a n c ls ∧ W1.grownBy V (some b) := by
  obtain ⟨a, c, hv, sv, _⟩ := o.form
  obtain ⟨n, hn⟩ : ∃ n, (l.take 10).length = n := ⟨_, rfl⟩
  have h10 := few_len l
  rw [hn] at hv sv h10
  obtain ⟨V, e, rV, g⟩ := (r.below b1).tst (g := h) (y := .slice a n c) rfl
  exact ⟨l.take 10, a, n, c, V, hn, h10, hv, e, ⟨rV, sv.keptT (r.below b1) g, gro (below_over hB b1) g hb (below_over hB b1).size, hb⟩, g⟩
theorem stepL_len (l : List Pt) (i : Int) : (stepL l i).length = l.length := by
  unfold stepL
  split
  · rw [List.length_set]
  · rfl
theorem hearL_len (l : List Pt) (i : Int) (m : Mg) : (hearL l i m).length = l.length := by
  unfold hearL
  split
  · rw [List.length_set]
  · rfl
theorem upL_len (l : List Pt) (i : Int) (b : Bool) : (upL l i b).length = l.length := by
  unfold upL
  split
  · rw [List.length_set]
  · rfl
theorem two_tm (w : World) (h : Hd) (x : Value) (m : Mg) : ∃ W, (w.alloc (.cells (trc h x) 31)).alloc (.cells m.cs 35) = W ∧ RvAt W w.heap.size 31 (trc h x) ∧ RvAt W (w.heap.size + 1) 35 m.cs ∧ Below w.heap.size w W ∧ W.heap.size = w.heap.size + 2 := by
  obtain ⟨A, hA, rA, bA, zA⟩ := one_t w h x
  obtain ⟨D, hD, rD, bD, zD⟩ := new_m A m
  rw [zA] at rD
  exact ⟨D, by rw [hA, hD], rA.below bD, rD, below_over bA bD, by omega⟩
/-- A step at a port that there is, told of that port. -/
theorem step_at {l : List Pt} {k : Nat} (hk : k < l.length) : stepL l (k : Int) = l.set k (tellO (gtP l k) (stepO (gtP l k))) ∧ stepB l (k : Int) = (stepO (gtP l k)).isSome := by
  unfold stepL stepB
  rw [if_pos ⟨by omega, by omega⟩, if_pos ⟨by omega, by omega⟩]
  exact ⟨rfl, rfl⟩
theorem step_none {l : List Pt} {k : Nat} (hk : k < l.length) (h : stepO (gtP l k) = none) : stepL l (k : Int) = l ∧ stepB l (k : Int) = false := by
  obtain ⟨h1, h2⟩ := step_at hk
  rw [h1, h2, h]
  exact ⟨set_self hk, rfl⟩
theorem step_some {l : List Pt} {k : Nat} {q : Pt} (hk : k < l.length) (h : stepO (gtP l k) = some q) : stepL l (k : Int) = l.set k q ∧ stepB l (k : Int) = true := by
  obtain ⟨h1, h2⟩ := step_at hk
  rw [h1, h2, h]
  exact ⟨rfl, rfl⟩
theorem gtP_put {l : List Pt} {k : Nat} {q : Pt} (hk : k < l.length) : gtP (l.set k q) k = q := by
  have := gtP_at (l := l.set k q) (i := k) (by rw [List.length_set]; exact hk)
  rw [List.getElem?_set, if_pos rfl, if_pos hk] at this
  exact (Option.some.inj this).symm
end Go.Proofs.Ytlneoegmlcbidaa
