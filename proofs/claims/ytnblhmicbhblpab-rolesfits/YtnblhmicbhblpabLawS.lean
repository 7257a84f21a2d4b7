/-
  A tree's variable of the statements; RolesRoots, RolesSelects: their walks, for every tree. Plain laws over the program's types ahead of them.
-/
import Derived.Test.YtnblhmicbhblpabAwake
namespace Go.Proofs.Ytnblhmicbhblpab
set_option linter.unusedVariables false
set_option maxRecDepth 4000
set_option linter.unusedSimpArgs false
open Go.RowKit

/-- Behind Few: the first ports are in the variable. -/
theorem TQ.few {w W W1 : World} {b m c : Nat} {h : Hd} {x : Value} {a : Option Addr} {l : List Pt} (r : RvAt W b 31 (trc h x)) (hB : Below w.heap.size w W) (hb : w.heap.size ≤ b) (b1 : Below W.heap.size W W1) (s : SlAt W1 a m c l) :
    ∃ V, (stS 31 (.pointer (some ⟨b, 0, none⟩)) (.agg (trc h (.slice a m c)))).run Try.prog W1 = .ok () V ∧ TQ w V b h a m c l := by
  obtain ⟨V, e, rV, g⟩ := (r.below b1).tst (g := h) (y := .slice a m c) rfl
  exact ⟨V, e, rV, s.keptT (r.below b1) g, gro (below_over hB b1) g hb (below_over hB b1).size, hb⟩
/-- A new one. -/
theorem TQ.new {w W : World} {n c : Nat} {h : Hd} {a : Option Addr} {l : List Pt} (s : SlAt W a n c l) (hB : Below w.heap.size w W) : ∃ V, (stS 31 (.pointer (some ⟨W.heap.size, 0, none⟩)) (.agg (trc h (.slice a n c)))).run Try.prog (W.alloc (.cells #[.int .u64 0, .int .u8 0, .int .u8 0, .int .u8 0, .int .u8 0, .int .u8 0, .bool false, .int .u16 0, .int .u64 0, .int .u32 0, .int .u64 0, .int .u16 0, .int .u8 0, .int .u8 0, .int .u8 0, .int .u8 0, .slice none 0 0] 31)) = .ok () V ∧ TQ w V W.heap.size h a n c l ∧ Below W.heap.size W V := by
  obtain ⟨V, e, r, b, z⟩ := new_tr W h (.slice a n c) rfl
  exact ⟨V, e, ⟨r, s.below b, below_over hB b, hB.size⟩, b⟩
end Go.Proofs.Ytnblhmicbhblpab
