/-
  Queues that nobody made: what each method answers, and the walk of the law, for every input.
-/
import Derived.Test.YtoojoiindfgoeaaQa
import Derived.Test.YtoojoiindfgoeaaQt
import Derived.Test.YtoojoiindfgoeaaQq
import Derived.Deep.CutRange
namespace Go.Proofs.Ytoojoiindfgoeaa
set_option linter.unusedVariables false
set_option maxRecDepth 4000
set_option linter.unusedSimpArgs false
open Go.RowKit Go.Conc
attribute [local go_sem ↓] apU apL bsU bsL slL slU
attribute [local go_sem] bzU bzL b1S
/-- A queue that nobody made. -/
def NobQ (W : World) (p : Option Addr) : Prop := p = none ∨ ∃ b, p = some ⟨b, 0, none⟩ ∧ RvAt W b 50 #[.chan none]
theorem nob_any {W : World} {p : Option Addr} (h : NobQ W p) : Calls Try.prog 19 #[.pointer p] W fun e W' => e = .returned (.bool false) ∧ W = W' := by
  rcases h with rfl | ⟨b, rfl, h⟩
  · exact none_any W
  · exact bare_any h
set_option maxHeartbeats 2000000 in
theorem nput_any {W : World} {p : Option Addr} (h : NobQ W p) (v : Value) : Calls Try.prog 9 #[.pointer p, v] W fun e W' => e = .returned (.int .i64 4) ∧ W = W' := by
  have H : Hid (NobQ W p) := h
  clear h
  go_enter Try.func9, Try.ntmps9
  go_wp2_with fail
  refine (nob_any H.out).mono ?_
  rintro _ _ ⟨rfl, rfl⟩
  go_wp2
  go_ret
  exact ⟨rfl, rfl⟩
set_option maxHeartbeats 2000000 in
theorem ntake_any {W : World} {p : Option Addr} (h : NobQ W p) : Calls Try.prog 11 #[.pointer p] W fun e W' => e = .returned (.tuple #[.slice none 0 0, .bool false]) ∧ W = W' := by
  have H : Hid (NobQ W p) := h
  clear h
  go_enter Try.func11, Try.ntmps11
  go_wp2_with fail
  refine (nob_any H.out).mono ?_
  rintro _ _ ⟨rfl, rfl⟩
  go_wp2
  go_returns
  exact ⟨rfl, rfl⟩
set_option maxHeartbeats 2000000 in
theorem nlen_any {W : World} {p : Option Addr} (h : NobQ W p) : Calls Try.prog 15 #[.pointer p] W fun e W' => e = .returned (.int .i64 0) ∧ W = W' := by
  have H : Hid (NobQ W p) := h
  clear h
  go_enter Try.func15, Try.ntmps15
  go_wp2_with fail
  refine (nob_any H.out).mono ?_
  rintro _ _ ⟨rfl, rfl⟩
  go_wp2
  go_ret
  exact ⟨rfl, rfl⟩
set_option maxHeartbeats 2000000 in
theorem nroom_any {W : World} {p : Option Addr} (h : NobQ W p) : Calls Try.prog 16 #[.pointer p] W fun e W' => e = .returned (.int .i64 0) ∧ W = W' := by
  have H : Hid (NobQ W p) := h
  clear h
  go_enter Try.func16, Try.ntmps16
  go_wp2_with fail
  refine (nob_any H.out).mono ?_
  rintro _ _ ⟨rfl, rfl⟩
  go_wp2
  go_ret
  exact ⟨rfl, rfl⟩
set_option maxHeartbeats 2000000 in
theorem nall_any {W : World} {p : Option Addr} (h : NobQ W p) : Calls Try.prog 18 #[.pointer p] W fun e W' => e = .returned (.slice none 0 0) ∧ W = W' := by
  have H : Hid (NobQ W p) := h
  clear h
  go_enter Try.func18, Try.ntmps18
  go_wp2_with fail
  refine (nlen_any H.out).mono ?_
  rintro _ _ ⟨rfl, rfl⟩
  go_wp2_with fail
  go_loopw [3, 8] (fun v u wr => v = .slice none 0 0 ∧ u = .int .i64 0 ∧ W = wr) (fun _ _ _ => 0)
  case atStart => exact ⟨rfl, rfl, rfl⟩
  case round =>
    obtain ⟨rfl, rfl, rfl⟩ := hrel
    go_wp2
    go_ret
    exact ⟨rfl, rfl⟩
set_option maxHeartbeats 2000000 in
theorem nclear_any {W : World} {p : Option Addr} (h : NobQ W p) : Calls Try.prog 13 #[.pointer p] W fun e W' => e = .returned (.int .i64 0) ∧ W = W' := by
  have H : Hid (NobQ W p) := h
  clear h
  go_enter Try.func13, Try.ntmps13
  go_wp2_with fail
  refine (ntake_any H.out).mono ?_
  rintro _ _ ⟨rfl, rfl⟩
  go_wp2_with fail
  go_loopw [3, 5] (fun u v wr => u = .int .i64 0 ∧ v = .bool false ∧ W = wr) (fun _ _ _ => 0)
  case atStart => exact ⟨rfl, rfl, rfl⟩
  case round =>
    obtain ⟨rfl, rfl, rfl⟩ := hrel
    go_wp2
    go_ret
    exact ⟨rfl, rfl⟩
set_option maxHeartbeats 2000000 in
theorem nfork_any {W : World} {p : Option Addr} (h : NobQ W p) : Calls Try.prog 14 #[.pointer p] W fun e W' => e = .returned (.pointer none) ∧ W = W' := by
  have H : Hid (NobQ W p) := h
  clear h
  go_enter Try.func14, Try.ntmps14
  go_wp2_with fail
  refine (nob_any H.out).mono ?_
  rintro _ _ ⟨rfl, rfl⟩
  go_wp2
  go_ret
  exact ⟨rfl, rfl⟩
end Go.Proofs.Ytoojoiindfgoeaa
