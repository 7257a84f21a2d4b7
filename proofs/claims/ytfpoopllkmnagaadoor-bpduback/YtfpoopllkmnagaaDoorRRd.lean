/-
  The walk of what bytes tell by definition: for all bytes.
-/
import Derived.Test.YtfpoopllkmnagaaDoorRRdTcn
import Derived.Test.YtfpoopllkmnagaaDoorRRdCfg
import Derived.Test.YtfpoopllkmnagaaDoorRRdRst
namespace Go.Proofs.YtfpoopllkmnagaaDoor
set_option linter.unusedVariables false
set_option maxRecDepth 4000
set_option linter.unusedSimpArgs false
open Go.RowKit

/-- What any bytes tell, by definition. -/
theorem rref_any (a : Option Addr) (n c : Nat) (l : List Int) (w : World) (h : Src w (.slice a n c) l) (hb : ∀ x ∈ l, 0 ≤ x ∧ x ≤ 255) :
    Calls Tryd.prog 13 #[.slice a n c] w fun r w' => ∃ m e, r = .returned (.tuple #[.agg (Bp.cs m), .int .i64 e]) ∧ RdOut l m e ∧ Below w.heap.size w w' := by
  by_cases h4 : l.length < 4
  · exact rr_short a n c l w h h4
  obtain ⟨b, o, rfl, _, _⟩ := src_some h (by omega)
  have h4' : 4 ≤ l.length := by omega
  by_cases h35 : 35 ≤ l.length
  · by_cases hg : gn l 2 = 2
    · cases ho : okB (rcand l)
      · exact rr_rst_bad b o n c _ l w h hb h4' h35 hg rfl ho
      · cases hq : beqL (mbytes (rcand l)) l
        · exact rr_rst_ne b o n c _ l w h hb h4' h35 hg rfl ho hq
        · exact rr_rst_ok b o n c _ l w h hb h4' h35 hg rfl ho hq
    · cases ho : okB (rcand l)
      · exact rr_cfg_bad b o n c _ l w h hb h4' h35 hg rfl ho
      · cases hq : beqL (mbytes (rcand l)) l
        · exact rr_cfg_ne b o n c _ l w h hb h4' h35 hg rfl ho hq
        · exact rr_cfg_ok b o n c _ l w h hb h4' h35 hg rfl ho hq
  · cases ho : okB (rcand l)
    · exact rr_tcn_bad b o n c _ l w h hb h4' h35 rfl ho
    · cases hq : beqL (mbytes (rcand l)) l
      · exact rr_tcn_ne b o n c _ l w h hb h4' h35 rfl ho hq
      · exact rr_tcn_ok b o n c _ l w h hb h4' h35 rfl ho hq
end Go.Proofs.YtfpoopllkmnagaaDoor
