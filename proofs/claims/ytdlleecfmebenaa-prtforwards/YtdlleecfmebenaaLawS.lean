/-
  A tree's variable of the statements: kept, stored anew; the first ports of a tree. Plain laws over the program's types.
-/
import Derived.Test.YtdlleecfmebenaaAwake
import Derived.Test.YtdlleecfmebenaaSame
namespace Go.Proofs.Ytdlleecfmebenaa
set_option linter.unusedVariables false
set_option maxRecDepth 4000
set_option linter.unusedSimpArgs false
open Go.RowKit

/-- A tree in a variable. -/
structure TQ (w W : World) (b : Nat) (h : Hd) (a : Option Addr) (n c : Nat) (l : List Pt) : Prop where
  var : RvAt W b 31 (trc h (.slice a n c))
  sl : SlAt W a n c l
  bel : Below w.heap.size w W
  hb : w.heap.size ≤ b
theorem TQ.below {w W V : World} {b n c : Nat} {h : Hd} {a : Option Addr} {l : List Pt} (t : TQ w W b h a n c l) (k : Below W.heap.size W V) : TQ w V b h a n c l := ⟨t.var.below k, t.sl.below k, below_over t.bel k, t.hb⟩
theorem TQ.ld {w W : World} {b n c : Nat} {h : Hd} {a : Option Addr} {l : List Pt} (t : TQ w W b h a n c l) : (ldS 31 (.pointer (some ⟨b, 0, none⟩))).run Try.prog W = .ok (.agg (trc h (.slice a n c))) W := t.var.tld
theorem TQ.st {w W : World} {b n c : Nat} {h : Hd} {a : Option Addr} {l : List Pt} (t : TQ w W b h a n c l) {a' : Option Addr} {c' : Nat} {l' : List Pt} (s : SlAt W a' n c' l') : ∃ V, (stS 31 (.pointer (some ⟨b, 0, none⟩)) (.agg (trc h (.slice a' n c')))).run Try.prog W = .ok () V ∧ TQ w V b h a' n c' l' ∧ W.grownBy V (some b) := by
  obtain ⟨V, e, r, g⟩ := t.var.tst (g := h) (y := .slice a' n c') rfl
  exact ⟨V, e, ⟨r, s.keptT t.var g, gro t.bel g t.hb t.bel.size, t.hb⟩, g⟩
/-- .. a new one. -/
theorem TQ.new {w W : World} {n c : Nat} {h : Hd} {a : Option Addr} {l : List Pt} (s : SlAt W a n c l) (hB : Below w.heap.size w W) : ∃ V, (stS 31 (.pointer (some ⟨W.heap.size, 0, none⟩)) (.agg (trc h (.slice a n c)))).run Try.prog (W.alloc (.cells #[.int .u64 0, .int .u8 0, .int .u8 0, .int .u8 0, .int .u8 0, .int .u8 0, .bool false, .int .u16 0, .int .u64 0, .int .u32 0, .int .u64 0, .int .u16 0, .int .u8 0, .int .u8 0, .int .u8 0, .int .u8 0, .slice none 0 0] 31)) = .ok () V ∧ TQ w V W.heap.size h a n c l ∧ Below W.heap.size W V := by
  obtain ⟨V, e, r, b, z⟩ := new_tv W h (.slice a n c) rfl
  exact ⟨V, e, ⟨r, s.below b, below_over hB b, hB.size⟩, b⟩
/-- A cell of a port of it. -/
theorem TQ.cell {w W : World} {b n c g o k : Nat} {h : Hd} {l : List Pt} {p : Pt} (t : TQ w W b h (some ⟨g, o, none⟩) n c l) (hk : l[k]? = some p) {j : Nat} {v : Value} (hv : p.cl[j]? = some v) (hj : j < 77) : W.cell? ⟨g, o + k * 77 + j, none⟩ = some v := t.sl.cell hk hv hj
theorem few_len (l : List Pt) : (l.take 10).length ≤ 10 := by rw [List.length_take]; omega
/-- Behind Few: the first ports are in the variable. -/
theorem few_in {w W W1 : World} {b n0 c0 : Nat} {h : Hd} {a0 : Option Addr} {l : List Pt} {v : Value} (r : RvAt W b 31 (trc h (.slice a0 n0 c0))) (hB : Below w.heap.size w W) (hb : w.heap.size ≤ b) (b1 : Below W.heap.size W W1) (o : Own W1 W.heap.size v (l.take 10)) :
    ∃ ls a n c V, ls.length = n ∧ n ≤ 10 ∧ v = .slice a n c ∧ (stS 31 (.pointer (some ⟨b, 0, none⟩)) (.agg (trc h (.slice a n c)))).run Try.prog W1 = .ok () V ∧ TQ w V b h a n c ls ∧ W1.grownBy V (some b) := by
  obtain ⟨a, c, hv, sv, _⟩ := o.form
  obtain ⟨n, hn⟩ : ∃ n, (l.take 10).length = n := ⟨_, rfl⟩
  have h10 := few_len l
  rw [hn] at hv sv h10
  obtain ⟨V, e, rV, g⟩ := (r.below b1).tst (g := h) (y := .slice a n c) rfl
  exact ⟨l.take 10, a, n, c, V, hn, h10, hv, e, ⟨rV, sv.keptT (r.below b1) g, gro (below_over hB b1) g hb (below_over hB b1).size, hb⟩, g⟩
end Go.Proofs.Ytdlleecfmebenaa
