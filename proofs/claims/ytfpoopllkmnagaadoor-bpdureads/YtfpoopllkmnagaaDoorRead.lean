/-
  The walk of what bytes tell: for all bytes.
-/
import Derived.Test.YtfpoopllkmnagaaDoorReadTcn
import Derived.Test.YtfpoopllkmnagaaDoorReadCfg
import Derived.Test.YtfpoopllkmnagaaDoorReadRst
namespace Go.Proofs.YtfpoopllkmnagaaDoor
set_option linter.unusedVariables false
set_option maxRecDepth 4000
set_option linter.unusedSimpArgs false
open Go.RowKit

theorem headK_in (n : Nat) : headK n = 2 ∨ headK n = 1 ∨ headK n = 3 ∨ headK n = 0 := by
  unfold headK
  split
  · exact .inl rfl
  · split
    · exact .inr (.inl rfl)
    · split
      · exact .inr (.inr (.inl rfl))
      · exact .inr (.inr (.inr rfl))
/-- What any bytes tell. -/
theorem read_any (a : Option Addr) (n c : Nat) (l : List Int) (w : World) (hR : Rl w) (h : Src w (.slice a n c) l) (hb : ∀ x ∈ l, 0 ≤ x ∧ x ≤ 255) :
    Calls Tryd.prog 12 #[.slice a n c] w fun r w' => ∃ m e, r = .returned (.tuple #[.agg (Bp.cs m), .int .i64 e]) ∧ RdOut l m e ∧ Below w.heap.size w w' := by
  by_cases h4 : l.length < 4
  · exact read_short a n c l w h h4
  obtain ⟨b, o, rfl, _, _⟩ := src_some h (by omega)
  obtain ⟨hn, _, _⟩ := src_short h
  by_cases hL : n = lenK (headK (nu (sub l 0 4)))
  · rcases headK_in (nu (sub l 0 4)) with hK | hK | hK | hK
    · obtain rfl : n = 4 := by rw [hL, hK]; rfl
      cases ho : okB (icand l)
      · exact read_tcn_bad b o c _ l w hR h hb hK rfl ho
      · cases hq : beqL (mbytes (icand l)) l
        · exact read_tcn_ne b o c _ l w hR h hb hK rfl ho hq
        · exact read_tcn_ok b o c _ l w hR h hb hK rfl ho hq
    · obtain rfl : n = 35 := by rw [hL, hK]; rfl
      cases ho : okB (icand l)
      · exact read_cfg_bad b o c _ l w hR h hb hK rfl ho
      · cases hq : beqL (mbytes (icand l)) l
        · exact read_cfg_ne b o c _ l w hR h hb hK rfl ho hq
        · exact read_cfg_ok b o c _ l w hR h hb hK rfl ho hq
    · obtain rfl : n = 36 := by rw [hL, hK]; rfl
      cases ho : okB (icand l)
      · exact read_rst_bad b o c _ l w hR h hb hK rfl ho
      · cases hq : beqL (mbytes (icand l)) l
        · exact read_rst_ne b o c _ l w hR h hb hK rfl ho hq
        · exact read_rst_ok b o c _ l w hR h hb hK rfl ho hq
    · rw [hK] at hL
      have : n = 0 := hL
      omega
  · exact read_len b o n c _ l w hR h hb (by omega) rfl hL
end Go.Proofs.YtfpoopllkmnagaaDoor
