/-
  BpduBack: what is encoded is decoded, what is decoded, encoded, is what it was: the walk.
-/
import Derived.Test.YtfpoopllkmnagaaDoorBackNo
import Derived.Test.YtfpoopllkmnagaaDoorBackTcn
import Derived.Test.YtfpoopllkmnagaaDoorBackCfg
import Derived.Test.YtfpoopllkmnagaaDoorBackRst
namespace Go.Proofs.YtfpoopllkmnagaaDoor
set_option linter.unusedVariables false
set_option maxRecDepth 4000
set_option linter.unusedSimpArgs false
open Go.RowKit

theorem BpduBack_walk (s : M6) (m : Bp) (a : Option Addr) (n c : Nat) (l : List Int) (w : World) (hR : Rl w) (hs : s.ok) (hm : m.wf) (h : Src w (.slice a n c) l) (hb : ∀ x ∈ l, 0 ≤ x ∧ x ≤ 255) :
    Calls Tryd.prog 6 #[.agg s.cs, .agg m.cs, .slice a n c] w fun r w' => r = .returned (.bool true) ∧ Below w.heap.size w w' := by
  by_cases he : encE s m = 0
  · have hk : s.kd = 1 := by
      unfold encE at he
      by_cases hk : s.kd = 1
      · exact hk
      · rw [if_neg hk] at he; cases he
    have ho : okB m = true := by
      unfold encE chkP at he
      rw [if_pos hk] at he
      cases ho : okB m
      · rw [ho] at he; cases he
      · rfl
    rcases ok_kind ho with h2 | h1 | h3
    · exact back_tcn s m a n c l w hR hs hm h hb hk ho h2
    · exact back_cfg s m a n c l w hR hs hm h hb hk ho h1
    · exact back_rst s m a n c l w hR hs hm h hb hk ho h3
  · exact back_no s m a n c l w hR hs hm h hb he
end Go.Proofs.YtfpoopllkmnagaaDoor
