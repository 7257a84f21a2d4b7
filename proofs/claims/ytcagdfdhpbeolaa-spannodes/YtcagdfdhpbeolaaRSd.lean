/-
  The definition: all edges, from both ends: the walk, for every input.
-/
import Derived.Test.YtcagdfdhpbeolaaCk
namespace Go.Proofs.Ytcagdfdhpbeolaa
set_option linter.unusedVariables false
set_option maxRecDepth 4000
set_option linter.unusedSimpArgs false
open Go.RowKit

theorem sidesE_next {l : List Eg} {i : Nat} {x : Eg} (h : l[i]? = some x) : sidesE (l.take (i + 1)) = sidesE (l.take i) ++ [x, x.turn] := by
  rw [List.take_add_one, h]
  simp [sidesE]
theorem bdSd (ps : Array (Nat × Value)) : Instr.build 64 ps = bdS 64 ps := rfl
theorem bdSd_is (x : Eg) (w : World) : (bdS 64 #[(0, .int .i64 x.a), (1, .int .i64 x.pa), (2, .int .u32 x.ca), (3, .int .i64 x.b), (4, .int .i64 x.pb)]).run Try.prog w = .ok (.agg x.ss) w := by kernel_rfl
theorem bdSd_tu (x : Eg) (w : World) : (bdS 64 #[(0, .int .i64 x.b), (1, .int .i64 x.pb), (2, .int .u32 x.cb), (3, .int .i64 x.a), (4, .int .i64 x.pa)]).run Try.prog w = .ok (.agg x.turn.ss) w := bdSd_is x.turn w
attribute [local go_sem ↓] ldE stE apSd bsSd bdSd
set_option maxHeartbeats 4000000 in
theorem rsides_any (a : Option Addr) (n c : Nat) (l : List Eg) (w : World) (hs : SlAt eE w a n c l) (hn : n ≤ 100) :
    Calls Try.prog 24 #[.slice a n c] w fun r w' => (∃ v, r = .returned v ∧ Own eS w' w.heap.size v (sidesE l)) ∧ Below w.heap.size w w' := by
  have hnn := hs.int
  have H : Hid (SlAt eE w a n c l ∧ l.length = n) := ⟨hs, hs.len⟩
  clear hs
  go_enter Try.func24, Try.ntmps24
  go_wp2_with fail
  go_loopw [3, 4] (fun v3 v4 wr => ∃ i : Nat, i ≤ n ∧ v4 = .int .i64 i ∧ Own eS wr w.heap.size v3 (sidesE (l.take i)) ∧ Below w.heap.size w wr) (fun _ v4 _ => n - (intOf v4).toNat)
  case atStart => exact ⟨0, by omega, rfl, Own.nil _ _, Below.refl _ _⟩
  case round =>
    obtain ⟨i, hi, rfl, hO, hB⟩ := hrel
    have hi0 : (0 : Int) ≤ (i : Int) := by omega
    by_cases hit : i < n
    · have hi1 : (i : Int) < (n : Int) := by omega
      have hil : i < l.length := by rw [H.out.2]; exact hit
      obtain ⟨b, o, rfl⟩ := H.out.1.some' (by omega)
      obtain ⟨x, hx⟩ : ∃ x, l[i]? = some x := ⟨_, List.getElem?_eq_getElem hil⟩
      have lp := lde (H.out.1.below hB) hx
      obtain ⟨V, sV, eV, bV⟩ := EvAt.put wr x
      have c0 := eV.c0
      have c1 := eV.c1
      have c2 := eV.c2
      have c3 := eV.c3
      have c4 := eV.c4
      have c5 := eV.c5
      have bd1 := bdSd_is x V
      have bd2 := bdSd_tu x V
      have bs := bsSd_is x x.turn V
      have hlen : (sidesE (l.take i)).length ≤ 1000 := by rw [sidesE_len, List.length_take]; omega
      obtain ⟨v', Y, ap, o2, b2⟩ := nS (hO.below bV) (Nat.le_trans hB.size bV.size) hlen x x.turn
      have Z : Hid (Own eS Y w.heap.size v' (sidesE (l.take (i + 1))) ∧ Below w.heap.size w Y) := ⟨by rw [sidesE_next hx]; exact o2, (below_over hB bV).trans b2⟩
      clear hO hB eV bV hx hil o2 b2 hlen
      go_wp2
      go_roundw
      case rel => exact ⟨i + 1, by omega, by go_num, Z.out.1, Z.out.2⟩
      case measure => simp [intOf]; omega
    · have hin : i = n := by omega
      subst hin
      have hi1 : ¬ (i : Int) < (i : Int) := by omega
      have Z : Hid (Own eS wr w.heap.size u3 (sidesE l) ∧ Below w.heap.size w wr) := ⟨by have := hO; rwa [List.take_of_length_le (by rw [H.out.2]; exact Nat.le_refl _)] at this, hB⟩
      clear hO hB
      go_wp2
      go_ret
      exact ⟨⟨_, rfl, Z.out.1⟩, Z.out.2⟩
end Go.Proofs.Ytcagdfdhpbeolaa
