/-
  The definition's SameAll: two rows of the same entries are the same.
-/
import Derived.Test.YtpbpofmlpbobmaaRAge
namespace Go.Proofs.Ytpbpofmlpbobmaa
set_option linter.unusedVariables false
set_option maxRecDepth 4000
set_option linter.unusedSimpArgs false
open Go.RowKit

attribute [local go_sem ↓] ldK stK ldM stM ldP stP ldE stE apE ldR stR slE
theorem neqE (x : En) (w : World) : (binOp .neq 55 (.agg x.cs) (.agg x.cs)).run Try.prog w = .ok (.bool false) w := by
  have u3 := Try.underlying3
  have a3 := Try.isAgg3
  have z3 := Try.sizeOf3
  have ub := Try.underlying4
  have ab := Try.isAgg4
  have zb := Try.sizeOf4
  have u4 := Try.underlying34
  have a4 := Try.isAgg34
  have z4 := Try.sizeOf34
  have hS : Try.prog.underlying 55 = some (.struct (Try.prog.fieldsOf 55)) := by kernel_rfl
  have hp : Try.prog.stoodInHeld 55 = false := by kernel_rfl
  have hm' : ∀ (a b c d e f a' b' c' d' e' f' : Int) (w : World), (Op.equalIn 9999 34 (.agg #[.int .u8 a, .int .u8 b, .int .u8 c, .int .u8 d, .int .u8 e, .int .u8 f]) (.agg #[.int .u8 a', .int .u8 b', .int .u8 c', .int .u8 d', .int .u8 e', .int .u8 f'])).run Try.prog w = .ok (eq6 a b c d e f a' b' c' d' e' f') w := eqMac9 9997
  have he := eq6_self x.k.a x.k.b x.k.c x.k.d x.k.e x.k.f
  simp only [En.cs]
  rw [run_neq_struct, show (10000 : Nat) = 9999 + 1 from rfl, run_equalIn_agg w 9999 55 _ _ hS hp]
  simp only [Program.fieldsOf, Try.underlying55]
  go_simp
set_option maxHeartbeats 4000000 in
theorem same_eq (a a' : Option Addr) (n k k' : Nat) (l : List En) (w : World) (h : SlAt w a n k l) (h' : SlAt w a' n k' l) (hn : n ≤ 1000) :
    Calls Try.prog 27 #[.slice a n k, .slice a' n k'] w fun r w' => r = .returned (.bool true) ∧ Below w.heap.size w w' := by
  have H : Hid (SlAt w a n k l ∧ SlAt w a' n k' l ∧ n ≤ 1000 ∧ l.length = n) := ⟨h, h', hn, h.len⟩
  have hnn : (n : Int) ≤ 1000 := by omega
  clear h h' hn
  go_enter Try.func27, Try.ntmps27
  go_wp2_with fail
  go_loopw [5] (fun v5 wr => ∃ i : Nat, i ≤ n ∧ v5 = .int .i64 i ∧ Below w.heap.size w wr) (fun v5 _ => n - (intOf v5).toNat)
  case atStart => exact ⟨0, by omega, rfl, Below.refl _ _⟩
  case round =>
    obtain ⟨i, hi, rfl, hB⟩ := hrel
    have hin0 : (0 : Int) ≤ (i : Int) := by omega
    by_cases hit : i < n
    · have hin1 : (i : Int) < (n : Int) := by omega
      obtain ⟨b, o, rfl⟩ := H.out.1.some' (by omega)
      obtain ⟨b', o', rfl⟩ := H.out.2.1.some' (by omega)
      obtain ⟨x, hx⟩ : ∃ x, l[i]? = some x := ⟨_, List.getElem?_eq_getElem (by have := H.out.2.2.2; omega)⟩
      have l1 := fun z : Later wr => ((H.out.1.below hB).below z.below).ld hx
      have l2 := fun z : Later wr => ((H.out.2.1.below hB).below z.below).ld hx
      have ne := neqE x
      have HB : Hid (Below w.heap.size w wr) := hB
      clear hB
      go_wp2_with fail
      refine wp_region_later (by kernel_rfl) (by kernel_rfl) ?_
      repeat (go_big_quiet_step (first | exact rfl))
      refine wpQuiet_nil ?_
      intro _ hw'
      obtain ⟨z, rfl⟩ := hw'
      clear l1 l2 ne
      go_wp2
      go_roundw
      case rel => exact ⟨i + 1, by omega, by go_num, below_over HB.out z.below⟩
      case measure => simp [intOf]; omega
    · have hin : i = n := by omega
      subst hin
      have hin1 : ¬ (i : Int) < (i : Int) := by omega
      go_wp2
      go_ret
      exact ⟨rfl, hB⟩
end Go.Proofs.Ytpbpofmlpbobmaa
